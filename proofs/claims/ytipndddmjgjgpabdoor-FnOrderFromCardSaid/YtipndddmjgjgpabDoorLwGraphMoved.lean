/- The law FnGraphMoved, walked. -/
import Derived.Test.YtipndddmjgjgpabDoorRegionM
import Derived.Test.YtipndddmjgjgpabDoorGphK
import Derived.Test.YtipndddmjgjgpabDoorBtwS
import Derived.Test.YtipndddmjgjgpabDoorLwOrderBack
import Derived.Deep.Cut
namespace Go.Proofs.YtipndddmjgjgpabDoor
open Go.RowKit

theorem lsg_eq (p : Int) (v v' : Value) (es : List Int) (w : World) (h1 : Ints w v es) (h2 : Ints w v' es) :
    Calls Tryd.prog 23 #[.agg #[.int .i64 p, v], .agg #[.int .i64 p, v']] w fun e w' => e = .returned (.bool true) ∧ Below w.heap.size w w' := by
  obtain ⟨p0, p1, pl⟩ := boxes2 (P := [.int .i64 p, v]) (R := [.int .i64 p, v']) (Below.refl ((w.alloc (.cells #[.int .i64 p, v] 25)).alloc (.cells #[.int .i64 p, v'] 25)).heap.size _)
  have a0 := p0.cell 0
  have a1 := p0.cell 1
  have b0 := p1.cell 0
  have b1 := p1.cell 1
  simp at a0 a1 b0 b1
  have PL := Lib.hid pl
  have H1 := Lib.hid (h1.below pl)
  have H2 := Lib.hid (h2.below pl)
  have hd : (p == p) = true := by simp
  clear p0 p1 pl h1 h2
  go_enter Tryd.func23, Tryd.ntmps23
  go_wp2_with fail
  refine (same_eq _ _ es _ H1.out H2.out).mono ?_
  rintro e w1 ⟨rfl, hb⟩
  have B1 := Lib.hid (Below.on PL.out hb)
  clear hb a0 a1 b0 b1
  go_wp2
  go_ret
  exact ⟨rfl, B1.out⟩

theorem gk_num {p : Int} {es : List Int} (h : Gk p es) : ∀ j, j < es.length → intIn (nth es j) := fun j hj => by
  have h1 := h.ed j hj
  have := h1.pos
  have := h1.lt h.p5
  exact ⟨by omega, by omega⟩
/-- What the law says of a graph moved: P31, P32. -/
structure GmFacts (p : Int) (es ys P' : List Int) (P : Int) : Prop where
  pe : P = p
  p1 : 1 ≤ p
  num : ∀ j, j < P'.length → intIn (nth P' j)
  few : P'.length ≤ 50
  gk : gkB P P' = true
  len : P'.length = es.length
  back : gmP P P' (bkL ys) = p ∧ gmE P P' (bkL ys) = es
  two : ∀ fs, odB fs p = true → gmP p es (thL ys fs) = gmP P P' fs ∧ gmE p es (thL ys fs) = gmE P P' fs
theorem gm_facts {p : Int} {es ys : List Int} (h : gmB p es ys = true) : GmFacts p es ys (gmE p es ys) (gmP p es ys) := by
  obtain ⟨hg, ho⟩ := gmB_true.1 h
  obtain ⟨e1, e2⟩ := gm_yes h
  rw [e1, e2]
  have hm := mov_gk ho hg
  have hy : odB ys ys.length = true := odB_true.2 (by rw [ho.len]; exact ho)
  refine ⟨rfl, hg.p1, gk_num hm, hm.few, gkB_true.2 hm, mov_len ho hg, ?_, fun fs hf => ?_⟩
  · rw [bkL_yes hy]
    obtain ⟨a, b⟩ := gm_yes (gmB_true.2 ⟨hm, bck_od ho⟩)
    rw [a, b, mov_bck ho hg]; exact ⟨rfl, rfl⟩
  · have hfo := odB_true.1 hf
    have ht : thB ys fs = true := thB_true.2 (by rw [ho.len]; exact ⟨ho, hfo⟩)
    rw [thL_yes ht]
    obtain ⟨a, b⟩ := gm_yes (gmB_true.2 ⟨hm, hfo⟩)
    obtain ⟨c, d⟩ := gm_yes (gmB_true.2 ⟨hg, thn_od ho hfo⟩)
    rw [a, b, c, d, mov_mov ho hfo hg]; exact ⟨rfl, rfl⟩
theorem gmE_fits {p : Int} {es o : List Int} : (gmE p es o).length ≤ 50 := by
  cases h : gmB p es o
  · rw [(gm_no h).2]; simp
  · rw [(gm_yes h).2]; obtain ⟨hg, ho⟩ := gmB_true.1 h; exact (mov_gk ho hg).few
theorem fits50 {xs : List Int} (h : xs.length ≤ 50) : xs.length ≤ maxLen := by unfold maxLen; omega

set_option maxRecDepth 100000 in
set_option maxHeartbeats 12800000 in
theorem lGraphMoved_walk (s s' : Value) (w : World) (h : CodeIn w s) (h' : CodeIn w s') (G : Gr w) : Calls Tryd.prog 5 #[s, s'] w fun e w' => e = .returned (.bool true) ∧ Below w.heap.size w w' := by
  obtain ⟨a0, len0, cap0, rfl⟩ := h.slice
  obtain ⟨a1, len1, cap1, rfl⟩ := h'.slice
  have H := Lib.hid h
  have H' := Lib.hid h'
  have G0 := Lib.hid G
  clear h h' G
  by_cases hl : 1048576 < len0
  · have hd : decide ((len0 : Int) > 1048576) = true := by simp; omega
    go_enter Tryd.func5, Tryd.ntmps5
    go_wp2
    go_ret
    exact ⟨rfl, Below.refl _ _⟩
  have hd : decide ((len0 : Int) > 1048576) = false := by simp; omega
  by_cases hl1 : 1048576 < len1
  · go_enter Tryd.func5, Tryd.ntmps5
    go_wp2
    go_ret
    exact ⟨rfl, Below.refl _ _⟩
  go_enter Tryd.func5, Tryd.ntmps5
  go_wp2_with fail
  refine (drawGraphMoved_any _ _ H.out).mono ?_
  rintro e w1 ⟨p, v, es, u, ys, rfl, p0, p5, hx, hy, hb⟩
  have HX := Lib.hid hx
  have HY := Lib.hid hy
  clear hx hy
  have S1 := Lib.hid (Lq.start hb)
  clear hb
  obtain ⟨va, vc, e1⟩ := Own.form_ints HX.out.ints
  obtain ⟨ua, uc, e2⟩ := Own.form_ints HY.out.ints
  subst e1 e2
  have S2 := Lib.hid (S1.out.more HY.out)
  clear S1
  have S3 := Lib.hid (S2.out.more HX.out)
  clear S2
  clear HX HY
  obtain ⟨PG, hPG⟩ : ∃ r, gmP p es ys = r := ⟨_, rfl⟩
  obtain ⟨XS, hXS⟩ : ∃ r, gmE p es ys = r := ⟨_, rfl⟩
  have HPG := Lib.hid hPG
  have HXS := Lib.hid hXS
  have HF := Lib.hid (show XS.length ≤ 50 by rw [← hXS]; exact gmE_fits)
  have ip : intIn p := ⟨by omega, by omega⟩
  have IP := Lib.hid ip
  clear hPG hXS ip
  obtain ⟨w2, hw2⟩ : ∃ z, z = w1.alloc (.cells #[.int .i64 p, .slice va es.length vc] 25) := ⟨_, rfl⟩
  have S4 : Hid (Lq w [(.slice va es.length vc, es), (.slice ua ys.length uc, ys)] [(w1.heap.size, [.int .i64 p, .slice va es.length vc])] [] w2) := Lib.hid (by rw [hw2]; exact S3.out.made [.int .i64 p, .slice va es.length vc] _)
  clear S3
  have Hw2 := Lib.hid hw2
  clear hw2
  have q5_0 := (S4.out.sx.bx _ (.head _)).cell 0
  have q5_1 := (S4.out.sx.bx _ (.head _)).cell 1
  simp at q5_0 q5_1
  rw [Hw2.out] at q5_0 q5_1
  go_wp2_with fail
  rw [← Hw2.out]
  refine (igm_any p _ _ es ys _ (S4.out.li _ (.head _)).ints (S4.out.li _ (.tail _ (.head _))).ints (S4.out.li _ (.tail _ (.head _))).cap (S4.out.li _ (.head _)).num).mono ?_
  rintro e w3 ⟨v2, rfl, oo, hb⟩
  rw [HXS.out] at oo
  rw [HPG.out]
  clear q5_0 q5_1
  have S5 := Lib.hid (S4.out.on hb)
  clear S4
  obtain ⟨ga, gc, e3⟩ := Own.form oo
  subst e3
  have S6 := Lib.hid (S5.out.add (Hl.mk1 oo))
  clear S5
  clear hb oo
  obtain ⟨w4, hw4⟩ : ∃ z, z = w3.alloc (.cells #[.int .i64 PG, .slice ga XS.length gc] 25) := ⟨_, rfl⟩
  have S7 : Hid (Lq w [(.slice va es.length vc, es), (.slice ua ys.length uc, ys)] [(w3.heap.size, [.int .i64 PG, .slice ga XS.length gc]), (w1.heap.size, [.int .i64 p, .slice va es.length vc])] [.l w2.heap.size w3.heap.size (.slice ga XS.length gc) XS] w4) := Lib.hid (by rw [hw4]; exact S6.out.made [.int .i64 PG, .slice ga XS.length gc] _)
  clear S6
  have Hw4 := Lib.hid hw4
  clear hw4
  go_wp2_with fail
  rw [← Hw4.out]
  apply wp_region_H (Z := List Cp × Option (Nat × List Value)) (S := fun k => k == 3 || k == 4) (C := fun z w' => Hid (Zx w4 z.1 z.2 w')) [0, 1, 2] ([], none)
  · kernel_rfl
  · kernel_rfl
  · kernel_rfl
  · exact ⟨rfl, rfl, rfl, trivial⟩
  · rfl
  · decide
  · exact Lib.hid (Zx.start (Below.refl _ _).drew)
  · intro z
    dsimp only [pickL, nthO]
    go_big_quiet_want
    go_big_quiet_op
    refine ⟨.agg #[.int .i64 PG, .slice ga XS.length gc], fun w' hw' => ?_, ?_⟩
    · have q9 := (S7.out.on hw'.out.be).sx.bx _ (.head _)
      have q0 := q9.cell 0
      have q1 := q9.cell 1
      simp at q0 q1
      simp [go_sem, q0, q1]
    go_big_quiet_on
    go_big_quiet_want
    go_big_quiet_op
    refine ⟨.agg #[.int .i64 p, .slice va es.length vc], fun w' hw' => ?_, ?_⟩
    · have q9 := (S7.out.on hw'.out.be).sx.bx _ (.tail _ (.head _))
      have q0 := q9.cell 0
      have q1 := q9.cell 1
      simp at q0 q1
      simp [go_sem, q0, q1]
    go_big_quiet_on
    go_big_quiet_want; go_big_quiet_op; first | go_big_quiet_on | (refine ⟨_, fun _ _ => rfl, ?_⟩; go_big_quiet_on)
    exact wpQuiet_nil rfl
  · skip
    refine wpAnyH_call (i := 3) (d := some 29) 24 #[.agg #[.int .i64 p, .slice va es.length vc], .slice ua ys.length uc] rfl (by kernel_rfl) rfl rfl (by kernel_rfl) (fun _ => by kernel_rfl) fun wa1 hc => ?_
    refine (sgm_any p _ _ es ys wa1 ((Lib.hid (S7.out.on hc.out.be)).out.li _ (.head _)).ints ((Lib.hid (S7.out.on hc.out.be)).out.li _ (.tail _ (.head _))).ints IP.out ((Lib.hid (S7.out.on hc.out.be)).out.li _ (.head _)).num).mono ?_
    rintro e wb1 ⟨v3, rfl, oo, hb⟩
    rw [HXS.out] at oo
    rw [HPG.out]
    refine ⟨_, rfl, ([.l wa1.heap.size wb1.heap.size v3 XS], none), Lib.hid (hc.out.add hb (Hl.mk1 oo) (Nat.le_refl _)), ?_⟩
    clear hb hc oo
    refine wpAnyH_call (i := 4) (d := some 30) 23 #[.agg #[.int .i64 PG, .slice ga XS.length gc], .agg #[.int .i64 PG, v3]] rfl (by kernel_rfl) rfl rfl (by kernel_rfl) (fun _ => by kernel_rfl) fun wa2 hc => ?_
    refine (lsg_eq PG _ _ XS wa2 (Ints.of_own ((Lib.hid (S7.out.on hc.out.be)).out.sx.ls _ (.head _)).1 (fits50 HF.out)) (Ints.of_own (hc.out.ls _ (.head _)).1 (fits50 HF.out))).mono ?_
    rintro e wb2 ⟨rfl, hb⟩
    refine ⟨_, rfl, ([.l wa1.heap.size wb1.heap.size v3 XS], none), Lib.hid (hc.out.on hb), ?_⟩
    clear hb hc
    refine wpAnyH_take (i := 5) (d := some 31) (.bool false) rfl (by kernel_rfl) rfl rfl (by kernel_rfl) (by kernel_rfl) (by kernel_rfl) (fun _ => by kernel_rfl) ?_
    refine ⟨by kernel_rfl, fun w5 hz => ?_⟩
    simp only [Act.put, List.setIfInBounds_toArray, List.set_cons_zero, List.set_cons_succ]
    have S8 := Lib.hid (S7.out.on hz.out.be)
    clear S7
    clear hz
    have q7_0 := (S8.out.sx.bx _ (.head _)).cell 0
    have q7_1 := (S8.out.sx.bx _ (.head _)).cell 1
    have q5_0 := (S8.out.sx.bx _ (.tail _ (.head _))).cell 0
    have q5_1 := (S8.out.sx.bx _ (.tail _ (.head _))).cell 1
    simp at q7_0 q7_1 q5_0 q5_1
    cases hgm : gmB p es ys
    · have hp0 : PG = 0 := by rw [← HPG.out]; exact (gm_no hgm).1
      subst hp0
      go_wp2_with fail
      refine (alive_any _ (G0.out.on S8.out.sx.be)).mono ?_
      rintro e wz ⟨rfl, rfl⟩
      go_wp2
      go_ret
      exact ⟨rfl, S8.out.sx.be⟩
    · have HG := Lib.hid (show GmFacts p es ys XS PG by rw [← HXS.out, ← HPG.out]; exact gm_facts hgm)
      have hpp := HG.out.pe
      subst hpp
      have p1 := HG.out.p1
      have hpn : (PG == 0) = false := by simp; omega
      clear hgm
      go_wp2_with fail
      refine (drawOrderThen_any _ _ (code_below H'.out S8.out.sx.be)).mono ?_
      rintro e w6 ⟨bv, bs, fv, fs, rfl, hbx, hfx, hb⟩
      clear q7_0 q7_1 q5_0 q5_1
      have HFX := Lib.hid hfx
      clear hbx hfx
      have S9 := Lib.hid (S8.out.on hb)
      clear S8
      clear hb
      obtain ⟨fa, fc, e4⟩ := Own.form_ints HFX.out.ints
      subst e4
      have S10 := Lib.hid (S9.out.more HFX.out)
      clear S9
      clear HFX
      have HBL := Lib.hid (show (bkL ys).length ≤ maxLen by unfold bkL; split; · { rw [bck_len]; have : ys.length ≤ 50 := (S10.out.li _ (.tail _ (.tail _ (.head _)))).few; unfold maxLen; omega }; · simp)
      cases hf : odB fs PG
      · skip
        go_wp2_with fail
        apply wp_region_H (Z := List Cp × Option (Nat × List Value)) (S := fun k => k == 3) (C := fun z w' => Hid (Zx w6 z.1 z.2 w')) [0, 1, 2] ([], none)
        · kernel_rfl
        · kernel_rfl
        · kernel_rfl
        · exact ⟨rfl, rfl, rfl, trivial⟩
        · rfl
        · decide
        · exact Lib.hid (Zx.start (Below.refl _ _).drew)
        · intro z
          dsimp only [pickL, nthO]
          go_big_quiet_want; go_big_quiet_op; first | go_big_quiet_on | (refine ⟨_, fun _ _ => rfl, ?_⟩; go_big_quiet_on)
          go_big_quiet_want; go_big_quiet_op; first | go_big_quiet_on | (refine ⟨_, fun _ _ => rfl, ?_⟩; go_big_quiet_on)
          go_big_quiet_want
          go_big_quiet_op
          refine ⟨.int .i64 PG, fun w' hw' => ?_, ?_⟩
          · have q9 := (S10.out.on hw'.out.be).sx.bx _ (.tail _ (.head _))
            have q0 := q9.cell 0
            simp at q0
            simp [go_sem, q0]
          go_big_quiet_on
          exact wpQuiet_nil rfl
        · skip
          refine wpAnyH_call (i := 3) (d := some 44) 20 #[.slice fa fs.length fc, .int .i64 PG] rfl (by kernel_rfl) rfl rfl (by kernel_rfl) (fun _ => by kernel_rfl) fun wa1 hc => ?_
          refine (sod_is hf ((Lib.hid (S10.out.on hc.out.be)).out.li _ (.head _)).ints).mono ?_
          rintro e wb1 ⟨rfl, hb⟩
          refine ⟨_, rfl, ([], none), Lib.hid (hc.out.on hb), ?_⟩
          clear hb hc
          refine wpAnyH_take (i := 4) (d := some 45) (.bool false) rfl (by kernel_rfl) rfl rfl (by kernel_rfl) (by kernel_rfl) (by kernel_rfl) (fun _ => by kernel_rfl) ?_
          refine wpAnyH_skip (i := 5) (d := some 46) rfl (by kernel_rfl) rfl rfl (by kernel_rfl) (by kernel_rfl) (by kernel_rfl) ?_
          refine wpAnyH_skip (i := 6) (d := some 47) rfl (by kernel_rfl) rfl rfl (by kernel_rfl) (by kernel_rfl) (by kernel_rfl) ?_
          refine wpAnyH_skip (i := 8) (d := some 49) rfl (by kernel_rfl) rfl rfl (by kernel_rfl) (by kernel_rfl) (by kernel_rfl) ?_
          refine wpAnyH_skip (i := 9) (d := some 50) rfl (by kernel_rfl) rfl rfl (by kernel_rfl) (by kernel_rfl) (by kernel_rfl) ?_
          refine wpAnyH_skip (i := 10) (d := some 51) rfl (by kernel_rfl) rfl rfl (by kernel_rfl) (by kernel_rfl) (by kernel_rfl) ?_
          refine wpAnyH_skip (i := 7) (d := some 48) rfl (by kernel_rfl) rfl rfl (by kernel_rfl) (by kernel_rfl) (by kernel_rfl) ?_
          refine wpAnyH_skip (i := 11) (d := some 52) rfl (by kernel_rfl) rfl rfl (by kernel_rfl) (by kernel_rfl) (by kernel_rfl) ?_
          refine wpAnyH_skip (i := 12) (d := some 53) rfl (by kernel_rfl) rfl rfl (by kernel_rfl) (by kernel_rfl) (by kernel_rfl) ?_
          refine wpAnyH_skip (i := 13) (d := some 54) rfl (by kernel_rfl) rfl rfl (by kernel_rfl) (by kernel_rfl) (by kernel_rfl) ?_
          refine wpAnyH_skip (i := 14) (d := some 55) rfl (by kernel_rfl) rfl rfl (by kernel_rfl) (by kernel_rfl) (by kernel_rfl) ?_
          refine wpAnyH_take (i := 15) (d := some 56) (.bool false) rfl (by kernel_rfl) rfl rfl (by kernel_rfl) (by kernel_rfl) (by kernel_rfl) (fun _ => by kernel_rfl) ?_
          refine ⟨by kernel_rfl, fun w7 hz => ?_⟩
          simp only [Act.put, List.setIfInBounds_toArray, List.set_cons_zero, List.set_cons_succ]
          have S11 := Lib.hid (S10.out.on hz.out.be)
          clear S10
          clear hz
          go_wp2_with fail
          apply wp_region_H (Z := List Cp × Option (Nat × List Value)) (S := fun k => k == 1 || k == 14 || k == 15 || k == 17) (C := fun z w' => Hid (Zx w7 z.1 z.2 w')) [0] ([], none)
          · kernel_rfl
          · kernel_rfl
          · kernel_rfl
          · exact ⟨rfl, trivial⟩
          · rfl
          · decide
          · exact Lib.hid (Zx.start (Below.refl _ _).drew)
          · intro z
            dsimp only [pickL, nthO]
            go_big_quiet_want
            go_big_quiet_op
            refine ⟨.agg #[.int .i64 PG, .slice ga XS.length gc], fun w' hw' => ?_, ?_⟩
            · have q9 := (S11.out.on hw'.out.be).sx.bx _ (.head _)
              have q0 := q9.cell 0
              have q1 := q9.cell 1
              simp at q0 q1
              simp [go_sem, q0, q1]
            go_big_quiet_on
            exact wpQuiet_nil rfl
          · skip
            refine wpAnyH_call (i := 1) (d := some 58) 15 #[.agg #[.int .i64 PG, .slice ga XS.length gc]] rfl (by kernel_rfl) rfl rfl (by kernel_rfl) (fun _ => by kernel_rfl) fun wa1 hc => ?_
            refine (igk_is HG.out.gk (Ints.of_own ((Lib.hid (S11.out.on hc.out.be)).out.sx.ls _ (.head _)).1 (fits50 HF.out)) HG.out.num).mono ?_
            rintro e wb1 ⟨rfl, hb⟩
            refine ⟨_, rfl, ([], none), Lib.hid (hc.out.on hb), ?_⟩
            clear hb hc
            refine wpAnyH_take (i := 2) (d := some 59) (.bool true) rfl (by kernel_rfl) rfl rfl (by kernel_rfl) (by kernel_rfl) (by kernel_rfl) (fun _ => by kernel_rfl) ?_
            refine wpAnyH_take (i := 3) (d := some 60) (.pointer (some ⟨w3.heap.size, 1, none⟩)) rfl (by kernel_rfl) rfl rfl (by kernel_rfl) (by kernel_rfl) (by kernel_rfl) (fun _ => by kernel_rfl) ?_
            refine wpAnyH_load (i := 4) (d := some 61) (.slice ga XS.length gc) rfl (by kernel_rfl) rfl rfl (by kernel_rfl) (by kernel_rfl) (by kernel_rfl) (fun z w' hw' => by
              have q9 := (S11.out.on hw'.out.be).sx.bx _ (.head _)
              have q1 := q9.cell 1
              simp at q1
              simp [go_sem, q1]) ?_
            refine wpAnyH_take (i := 5) (d := some 62) (.int .i64 (XS.length : Nat)) rfl (by kernel_rfl) rfl rfl (by kernel_rfl) (by kernel_rfl) (by kernel_rfl) (fun _ => by kernel_rfl) ?_
            refine wpAnyH_take (i := 6) (d := some 63) (.pointer (some ⟨w1.heap.size, 1, none⟩)) rfl (by kernel_rfl) rfl rfl (by kernel_rfl) (by kernel_rfl) (by kernel_rfl) (fun _ => by kernel_rfl) ?_
            refine wpAnyH_load (i := 7) (d := some 64) (.slice va es.length vc) rfl (by kernel_rfl) rfl rfl (by kernel_rfl) (by kernel_rfl) (by kernel_rfl) (fun z w' hw' => by
              have q9 := (S11.out.on hw'.out.be).sx.bx _ (.tail _ (.head _))
              have q1 := q9.cell 1
              simp at q1
              simp [go_sem, q1]) ?_
            refine wpAnyH_take (i := 8) (d := some 65) (.int .i64 (es.length : Nat)) rfl (by kernel_rfl) rfl rfl (by kernel_rfl) (by kernel_rfl) (by kernel_rfl) (fun _ => by kernel_rfl) ?_
            refine wpAnyH_load (i := 9) (d := some 66) (.bool true) rfl (by kernel_rfl) rfl rfl (by kernel_rfl) (by kernel_rfl) (by kernel_rfl) (fun z w' _ => by simp [go_sem, HG.out.len]) ?_
            refine wpAnyH_take (i := 10) (d := some 67) (.bool true) rfl (by kernel_rfl) rfl rfl (by kernel_rfl) (by kernel_rfl) (by kernel_rfl) (fun _ => by kernel_rfl) ?_
            refine wpAnyH_take (i := 11) (d := some 68) (.bool true) rfl (by kernel_rfl) rfl rfl (by kernel_rfl) (by kernel_rfl) (by kernel_rfl) (fun _ => by kernel_rfl) ?_
            refine wpAnyH_load (i := 12) (d := some 69) (.agg #[.int .i64 PG, .slice ga XS.length gc]) rfl (by kernel_rfl) rfl rfl (by kernel_rfl) (by kernel_rfl) (by kernel_rfl) (fun z w' hw' => by
              have q9 := (S11.out.on hw'.out.be).sx.bx _ (.head _)
              have q0 := q9.cell 0
              have q1 := q9.cell 1
              simp at q0 q1
              simp [go_sem, q0, q1]) ?_
            refine wpAnyH_take (i := 13) (d := some 70) (.slice ua ys.length uc) rfl (by kernel_rfl) rfl rfl (by kernel_rfl) (by kernel_rfl) (by kernel_rfl) (fun _ => by kernel_rfl) ?_
            refine wpAnyH_load (i := 16) (d := some 73) (.agg #[.int .i64 PG, .slice va es.length vc]) rfl (by kernel_rfl) rfl rfl (by kernel_rfl) (by kernel_rfl) (by kernel_rfl) (fun z w' hw' => by
              have q9 := (S11.out.on hw'.out.be).sx.bx _ (.tail _ (.head _))
              have q0 := q9.cell 0
              have q1 := q9.cell 1
              simp at q0 q1
              simp [go_sem, q0, q1]) ?_
            refine wpAnyH_call (i := 14) (d := some 71) 27 #[.slice ua ys.length uc] rfl (by kernel_rfl) rfl rfl (by kernel_rfl) (fun _ => by kernel_rfl) fun wa2 hc => ?_
            refine (ibck_any _ ys wa2 ((Lib.hid (S11.out.on hc.out.be)).out.li _ (.tail _ (.tail _ (.head _)))).ints ((Lib.hid (S11.out.on hc.out.be)).out.li _ (.tail _ (.tail _ (.head _)))).cap).mono ?_
            rintro e wb2 ⟨v8, rfl, oo, hb⟩
            refine ⟨_, rfl, ([.l wa2.heap.size wb2.heap.size v8 (bkL ys)], none), Lib.hid (hc.out.add hb (Hl.mk1 oo) (Nat.le_refl _)), ?_⟩
            clear hb hc oo
            refine wpAnyH_call (i := 15) (d := some 72) 22 #[.agg #[.int .i64 PG, .slice ga XS.length gc], v8] rfl (by kernel_rfl) rfl rfl (by kernel_rfl) (fun _ => by kernel_rfl) fun wa3 hc => ?_
            refine (igm_any PG _ _ XS (bkL ys) wa3 (Ints.of_own ((Lib.hid (S11.out.on hc.out.be)).out.sx.ls _ (.head _)).1 (fits50 HF.out)) (Ints.of_own (hc.out.ls _ (.head _)).1 HBL.out) (hc.out.ls _ (.head _)).1.capped HG.out.num).mono ?_
            rintro e wb3 ⟨v9, rfl, oo, hb⟩
            rw [HG.out.back.2] at oo
            rw [HG.out.back.1]
            refine ⟨_, rfl, ([.l wa3.heap.size wb3.heap.size v9 es, .l wa2.heap.size wb2.heap.size v8 (bkL ys)], none), Lib.hid (hc.out.add hb (Hl.mk1 oo) (Nat.le_refl _)), ?_⟩
            clear hb hc oo
            refine wpAnyH_call (i := 17) (d := some 74) 23 #[.agg #[.int .i64 PG, v9], .agg #[.int .i64 PG, .slice va es.length vc]] rfl (by kernel_rfl) rfl rfl (by kernel_rfl) (fun _ => by kernel_rfl) fun wa4 hc => ?_
            refine (lsg_eq PG _ _ es wa4 (Ints.of_own (hc.out.ls _ (.head _)).1 (fits50 ((Lib.hid (S11.out.on hc.out.be)).out.li _ (.tail _ (.head _))).few)) ((Lib.hid (S11.out.on hc.out.be)).out.li _ (.tail _ (.head _))).ints).mono ?_
            rintro e wb4 ⟨rfl, hb⟩
            refine ⟨_, rfl, ([.l wa3.heap.size wb3.heap.size v9 es, .l wa2.heap.size wb2.heap.size v8 (bkL ys)], none), Lib.hid (hc.out.on hb), ?_⟩
            clear hb hc
            refine wpAnyH_take (i := 18) (d := some 75) (.bool true) rfl (by kernel_rfl) rfl rfl (by kernel_rfl) (by kernel_rfl) (by kernel_rfl) (fun _ => by kernel_rfl) ?_
            refine wpAnyH_take (i := 19) (d := some 4) (.bool true) rfl (by kernel_rfl) rfl rfl (by kernel_rfl) (by kernel_rfl) (by kernel_rfl) (fun _ => by kernel_rfl) ?_
            refine ⟨by kernel_rfl, fun w8 hz => ?_⟩
            simp only [Act.put, List.setIfInBounds_toArray, List.set_cons_zero, List.set_cons_succ]
            have S12 := Lib.hid (S11.out.on hz.out.be)
            clear S11
            clear hz
            go_wp2
            go_ret
            exact ⟨rfl, S12.out.sx.be⟩
      · obtain ⟨ht1, ht2⟩ := HG.out.two fs hf
        have HT1 := Lib.hid ht1
        have HT2 := Lib.hid ht2
        have HT := Lib.hid (show (thL ys fs).length ≤ maxLen by unfold thL; split; · { rw [thn_len]; have : ys.length ≤ 50 := (S10.out.li _ (.tail _ (.tail _ (.head _)))).few; unfold maxLen; omega }; · simp)
        clear ht1 ht2
        go_wp2_with fail
        apply wp_region_H (Z := List Cp × Option (Nat × List Value)) (S := fun k => k == 3 || k == 7 || k == 11 || k == 12 || k == 13) (C := fun z w' => Hid (Zx w6 z.1 z.2 w')) [0, 1, 2] ([], none)
        · kernel_rfl
        · kernel_rfl
        · kernel_rfl
        · exact ⟨rfl, rfl, rfl, trivial⟩
        · rfl
        · decide
        · exact Lib.hid (Zx.start (Below.refl _ _).drew)
        · intro z
          dsimp only [pickL, nthO]
          go_big_quiet_want; go_big_quiet_op; first | go_big_quiet_on | (refine ⟨_, fun _ _ => rfl, ?_⟩; go_big_quiet_on)
          go_big_quiet_want; go_big_quiet_op; first | go_big_quiet_on | (refine ⟨_, fun _ _ => rfl, ?_⟩; go_big_quiet_on)
          go_big_quiet_want
          go_big_quiet_op
          refine ⟨.int .i64 PG, fun w' hw' => ?_, ?_⟩
          · have q9 := (S10.out.on hw'.out.be).sx.bx _ (.tail _ (.head _))
            have q0 := q9.cell 0
            simp at q0
            simp [go_sem, q0]
          go_big_quiet_on
          exact wpQuiet_nil rfl
        · skip
          refine wpAnyH_call (i := 3) (d := some 44) 20 #[.slice fa fs.length fc, .int .i64 PG] rfl (by kernel_rfl) rfl rfl (by kernel_rfl) (fun _ => by kernel_rfl) fun wa1 hc => ?_
          refine (sod_is hf ((Lib.hid (S10.out.on hc.out.be)).out.li _ (.head _)).ints).mono ?_
          rintro e wb1 ⟨rfl, hb⟩
          refine ⟨_, rfl, ([], none), Lib.hid (hc.out.on hb), ?_⟩
          clear hb hc
          refine wpAnyH_take (i := 4) (d := some 45) (.bool true) rfl (by kernel_rfl) rfl rfl (by kernel_rfl) (by kernel_rfl) (by kernel_rfl) (fun _ => by kernel_rfl) ?_
          refine wpAnyH_load (i := 5) (d := some 46) (.agg #[.int .i64 PG, .slice ga XS.length gc]) rfl (by kernel_rfl) rfl rfl (by kernel_rfl) (by kernel_rfl) (by kernel_rfl) (fun z w' hw' => by
            have q9 := (S10.out.on hw'.out.be).sx.bx _ (.head _)
            have q0 := q9.cell 0
            have q1 := q9.cell 1
            simp at q0 q1
            simp [go_sem, q0, q1]) ?_
          refine wpAnyH_take (i := 6) (d := some 47) (.slice fa fs.length fc) rfl (by kernel_rfl) rfl rfl (by kernel_rfl) (by kernel_rfl) (by kernel_rfl) (fun _ => by kernel_rfl) ?_
          refine wpAnyH_load (i := 8) (d := some 49) (.agg #[.int .i64 PG, .slice va es.length vc]) rfl (by kernel_rfl) rfl rfl (by kernel_rfl) (by kernel_rfl) (by kernel_rfl) (fun z w' hw' => by
            have q9 := (S10.out.on hw'.out.be).sx.bx _ (.tail _ (.head _))
            have q0 := q9.cell 0
            have q1 := q9.cell 1
            simp at q0 q1
            simp [go_sem, q0, q1]) ?_
          refine wpAnyH_take (i := 9) (d := some 50) (.slice ua ys.length uc) rfl (by kernel_rfl) rfl rfl (by kernel_rfl) (by kernel_rfl) (by kernel_rfl) (fun _ => by kernel_rfl) ?_
          refine wpAnyH_take (i := 10) (d := some 51) (.slice fa fs.length fc) rfl (by kernel_rfl) rfl rfl (by kernel_rfl) (by kernel_rfl) (by kernel_rfl) (fun _ => by kernel_rfl) ?_
          refine wpAnyH_call (i := 7) (d := some 48) 22 #[.agg #[.int .i64 PG, .slice ga XS.length gc], .slice fa fs.length fc] rfl (by kernel_rfl) rfl rfl (by kernel_rfl) (fun _ => by kernel_rfl) fun wa2 hc => ?_
          refine (igm_any PG _ _ XS fs wa2 (Ints.of_own ((Lib.hid (S10.out.on hc.out.be)).out.sx.ls _ (.head _)).1 (fits50 HF.out)) ((Lib.hid (S10.out.on hc.out.be)).out.li _ (.head _)).ints ((Lib.hid (S10.out.on hc.out.be)).out.li _ (.head _)).cap HG.out.num).mono ?_
          rintro e wb2 ⟨v4, rfl, oo, hb⟩
          refine ⟨_, rfl, ([.l wa2.heap.size wb2.heap.size v4 (gmE PG XS fs)], none), Lib.hid (hc.out.add hb (Hl.mk1 oo) (Nat.le_refl _)), ?_⟩
          clear hb hc oo
          refine wpAnyH_call (i := 11) (d := some 52) 26 #[.slice ua ys.length uc, .slice fa fs.length fc] rfl (by kernel_rfl) rfl rfl (by kernel_rfl) (fun _ => by kernel_rfl) fun wa3 hc => ?_
          refine (ithn_any _ _ ys fs wa3 ((Lib.hid (S10.out.on hc.out.be)).out.li _ (.tail _ (.tail _ (.head _)))).ints ((Lib.hid (S10.out.on hc.out.be)).out.li _ (.head _)).ints ((Lib.hid (S10.out.on hc.out.be)).out.li _ (.tail _ (.tail _ (.head _)))).cap ((Lib.hid (S10.out.on hc.out.be)).out.li _ (.head _)).cap).mono ?_
          rintro e wb3 ⟨v5, rfl, oo, hb⟩
          refine ⟨_, rfl, ([.l wa3.heap.size wb3.heap.size v5 (thL ys fs), .l wa2.heap.size wb2.heap.size v4 (gmE PG XS fs)], none), Lib.hid (hc.out.add hb (Hl.mk1 oo) (Nat.le_refl _)), ?_⟩
          clear hb hc oo
          refine wpAnyH_call (i := 12) (d := some 53) 22 #[.agg #[.int .i64 PG, .slice va es.length vc], v5] rfl (by kernel_rfl) rfl rfl (by kernel_rfl) (fun _ => by kernel_rfl) fun wa4 hc => ?_
          refine (igm_any PG _ _ es (thL ys fs) wa4 ((Lib.hid (S10.out.on hc.out.be)).out.li _ (.tail _ (.head _))).ints (Ints.of_own (hc.out.ls _ (.head _)).1 HT.out) (hc.out.ls _ (.head _)).1.capped ((Lib.hid (S10.out.on hc.out.be)).out.li _ (.tail _ (.head _))).num).mono ?_
          rintro e wb4 ⟨v6, rfl, oo, hb⟩
          rw [HT2.out] at oo
          rw [HT1.out]
          refine ⟨_, rfl, ([.l wa4.heap.size wb4.heap.size v6 (gmE PG XS fs), .l wa3.heap.size wb3.heap.size v5 (thL ys fs), .l wa2.heap.size wb2.heap.size v4 (gmE PG XS fs)], none), Lib.hid (hc.out.add hb (Hl.mk1 oo) (Nat.le_refl _)), ?_⟩
          clear hb hc oo
          refine wpAnyH_call (i := 13) (d := some 54) 23 #[.agg #[.int .i64 (gmP PG XS fs), v4], .agg #[.int .i64 (gmP PG XS fs), v6]] rfl (by kernel_rfl) rfl rfl (by kernel_rfl) (fun _ => by kernel_rfl) fun wa5 hc => ?_
          refine (lsg_eq _ _ _ (gmE PG XS fs) wa5 (Ints.of_own (hc.out.ls _ (.tail _ (.tail _ (.head _)))).1 (fits50 gmE_fits)) (Ints.of_own (hc.out.ls _ (.head _)).1 (fits50 gmE_fits))).mono ?_
          rintro e wb5 ⟨rfl, hb⟩
          refine ⟨_, rfl, ([.l wa4.heap.size wb4.heap.size v6 (gmE PG XS fs), .l wa3.heap.size wb3.heap.size v5 (thL ys fs), .l wa2.heap.size wb2.heap.size v4 (gmE PG XS fs)], none), Lib.hid (hc.out.on hb), ?_⟩
          clear hb hc
          refine wpAnyH_take (i := 14) (d := some 55) (.bool false) rfl (by kernel_rfl) rfl rfl (by kernel_rfl) (by kernel_rfl) (by kernel_rfl) (fun _ => by kernel_rfl) ?_
          refine wpAnyH_take (i := 15) (d := some 56) (.bool false) rfl (by kernel_rfl) rfl rfl (by kernel_rfl) (by kernel_rfl) (by kernel_rfl) (fun _ => by kernel_rfl) ?_
          refine ⟨by kernel_rfl, fun w9 hz => ?_⟩
          simp only [Act.put, List.setIfInBounds_toArray, List.set_cons_zero, List.set_cons_succ]
          have S13 := Lib.hid (S10.out.on hz.out.be)
          clear S10
          clear hz
          go_wp2_with fail
          apply wp_region_H (Z := List Cp × Option (Nat × List Value)) (S := fun k => k == 1 || k == 14 || k == 15 || k == 17) (C := fun z w' => Hid (Zx w9 z.1 z.2 w')) [0] ([], none)
          · kernel_rfl
          · kernel_rfl
          · kernel_rfl
          · exact ⟨rfl, trivial⟩
          · rfl
          · decide
          · exact Lib.hid (Zx.start (Below.refl _ _).drew)
          · intro z
            dsimp only [pickL, nthO]
            go_big_quiet_want
            go_big_quiet_op
            refine ⟨.agg #[.int .i64 PG, .slice ga XS.length gc], fun w' hw' => ?_, ?_⟩
            · have q9 := (S13.out.on hw'.out.be).sx.bx _ (.head _)
              have q0 := q9.cell 0
              have q1 := q9.cell 1
              simp at q0 q1
              simp [go_sem, q0, q1]
            go_big_quiet_on
            exact wpQuiet_nil rfl
          · skip
            refine wpAnyH_call (i := 1) (d := some 58) 15 #[.agg #[.int .i64 PG, .slice ga XS.length gc]] rfl (by kernel_rfl) rfl rfl (by kernel_rfl) (fun _ => by kernel_rfl) fun wa1 hc => ?_
            refine (igk_is HG.out.gk (Ints.of_own ((Lib.hid (S13.out.on hc.out.be)).out.sx.ls _ (.head _)).1 (fits50 HF.out)) HG.out.num).mono ?_
            rintro e wb1 ⟨rfl, hb⟩
            refine ⟨_, rfl, ([], none), Lib.hid (hc.out.on hb), ?_⟩
            clear hb hc
            refine wpAnyH_take (i := 2) (d := some 59) (.bool true) rfl (by kernel_rfl) rfl rfl (by kernel_rfl) (by kernel_rfl) (by kernel_rfl) (fun _ => by kernel_rfl) ?_
            refine wpAnyH_take (i := 3) (d := some 60) (.pointer (some ⟨w3.heap.size, 1, none⟩)) rfl (by kernel_rfl) rfl rfl (by kernel_rfl) (by kernel_rfl) (by kernel_rfl) (fun _ => by kernel_rfl) ?_
            refine wpAnyH_load (i := 4) (d := some 61) (.slice ga XS.length gc) rfl (by kernel_rfl) rfl rfl (by kernel_rfl) (by kernel_rfl) (by kernel_rfl) (fun z w' hw' => by
              have q9 := (S13.out.on hw'.out.be).sx.bx _ (.head _)
              have q1 := q9.cell 1
              simp at q1
              simp [go_sem, q1]) ?_
            refine wpAnyH_take (i := 5) (d := some 62) (.int .i64 (XS.length : Nat)) rfl (by kernel_rfl) rfl rfl (by kernel_rfl) (by kernel_rfl) (by kernel_rfl) (fun _ => by kernel_rfl) ?_
            refine wpAnyH_take (i := 6) (d := some 63) (.pointer (some ⟨w1.heap.size, 1, none⟩)) rfl (by kernel_rfl) rfl rfl (by kernel_rfl) (by kernel_rfl) (by kernel_rfl) (fun _ => by kernel_rfl) ?_
            refine wpAnyH_load (i := 7) (d := some 64) (.slice va es.length vc) rfl (by kernel_rfl) rfl rfl (by kernel_rfl) (by kernel_rfl) (by kernel_rfl) (fun z w' hw' => by
              have q9 := (S13.out.on hw'.out.be).sx.bx _ (.tail _ (.head _))
              have q1 := q9.cell 1
              simp at q1
              simp [go_sem, q1]) ?_
            refine wpAnyH_take (i := 8) (d := some 65) (.int .i64 (es.length : Nat)) rfl (by kernel_rfl) rfl rfl (by kernel_rfl) (by kernel_rfl) (by kernel_rfl) (fun _ => by kernel_rfl) ?_
            refine wpAnyH_load (i := 9) (d := some 66) (.bool true) rfl (by kernel_rfl) rfl rfl (by kernel_rfl) (by kernel_rfl) (by kernel_rfl) (fun z w' _ => by simp [go_sem, HG.out.len]) ?_
            refine wpAnyH_take (i := 10) (d := some 67) (.bool true) rfl (by kernel_rfl) rfl rfl (by kernel_rfl) (by kernel_rfl) (by kernel_rfl) (fun _ => by kernel_rfl) ?_
            refine wpAnyH_take (i := 11) (d := some 68) (.bool true) rfl (by kernel_rfl) rfl rfl (by kernel_rfl) (by kernel_rfl) (by kernel_rfl) (fun _ => by kernel_rfl) ?_
            refine wpAnyH_load (i := 12) (d := some 69) (.agg #[.int .i64 PG, .slice ga XS.length gc]) rfl (by kernel_rfl) rfl rfl (by kernel_rfl) (by kernel_rfl) (by kernel_rfl) (fun z w' hw' => by
              have q9 := (S13.out.on hw'.out.be).sx.bx _ (.head _)
              have q0 := q9.cell 0
              have q1 := q9.cell 1
              simp at q0 q1
              simp [go_sem, q0, q1]) ?_
            refine wpAnyH_take (i := 13) (d := some 70) (.slice ua ys.length uc) rfl (by kernel_rfl) rfl rfl (by kernel_rfl) (by kernel_rfl) (by kernel_rfl) (fun _ => by kernel_rfl) ?_
            refine wpAnyH_load (i := 16) (d := some 73) (.agg #[.int .i64 PG, .slice va es.length vc]) rfl (by kernel_rfl) rfl rfl (by kernel_rfl) (by kernel_rfl) (by kernel_rfl) (fun z w' hw' => by
              have q9 := (S13.out.on hw'.out.be).sx.bx _ (.tail _ (.head _))
              have q0 := q9.cell 0
              have q1 := q9.cell 1
              simp at q0 q1
              simp [go_sem, q0, q1]) ?_
            refine wpAnyH_call (i := 14) (d := some 71) 27 #[.slice ua ys.length uc] rfl (by kernel_rfl) rfl rfl (by kernel_rfl) (fun _ => by kernel_rfl) fun wa2 hc => ?_
            refine (ibck_any _ ys wa2 ((Lib.hid (S13.out.on hc.out.be)).out.li _ (.tail _ (.tail _ (.head _)))).ints ((Lib.hid (S13.out.on hc.out.be)).out.li _ (.tail _ (.tail _ (.head _)))).cap).mono ?_
            rintro e wb2 ⟨v8, rfl, oo, hb⟩
            refine ⟨_, rfl, ([.l wa2.heap.size wb2.heap.size v8 (bkL ys)], none), Lib.hid (hc.out.add hb (Hl.mk1 oo) (Nat.le_refl _)), ?_⟩
            clear hb hc oo
            refine wpAnyH_call (i := 15) (d := some 72) 22 #[.agg #[.int .i64 PG, .slice ga XS.length gc], v8] rfl (by kernel_rfl) rfl rfl (by kernel_rfl) (fun _ => by kernel_rfl) fun wa3 hc => ?_
            refine (igm_any PG _ _ XS (bkL ys) wa3 (Ints.of_own ((Lib.hid (S13.out.on hc.out.be)).out.sx.ls _ (.head _)).1 (fits50 HF.out)) (Ints.of_own (hc.out.ls _ (.head _)).1 HBL.out) (hc.out.ls _ (.head _)).1.capped HG.out.num).mono ?_
            rintro e wb3 ⟨v9, rfl, oo, hb⟩
            rw [HG.out.back.2] at oo
            rw [HG.out.back.1]
            refine ⟨_, rfl, ([.l wa3.heap.size wb3.heap.size v9 es, .l wa2.heap.size wb2.heap.size v8 (bkL ys)], none), Lib.hid (hc.out.add hb (Hl.mk1 oo) (Nat.le_refl _)), ?_⟩
            clear hb hc oo
            refine wpAnyH_call (i := 17) (d := some 74) 23 #[.agg #[.int .i64 PG, v9], .agg #[.int .i64 PG, .slice va es.length vc]] rfl (by kernel_rfl) rfl rfl (by kernel_rfl) (fun _ => by kernel_rfl) fun wa4 hc => ?_
            refine (lsg_eq PG _ _ es wa4 (Ints.of_own (hc.out.ls _ (.head _)).1 (fits50 ((Lib.hid (S13.out.on hc.out.be)).out.li _ (.tail _ (.head _))).few)) ((Lib.hid (S13.out.on hc.out.be)).out.li _ (.tail _ (.head _))).ints).mono ?_
            rintro e wb4 ⟨rfl, hb⟩
            refine ⟨_, rfl, ([.l wa3.heap.size wb3.heap.size v9 es, .l wa2.heap.size wb2.heap.size v8 (bkL ys)], none), Lib.hid (hc.out.on hb), ?_⟩
            clear hb hc
            refine wpAnyH_take (i := 18) (d := some 75) (.bool true) rfl (by kernel_rfl) rfl rfl (by kernel_rfl) (by kernel_rfl) (by kernel_rfl) (fun _ => by kernel_rfl) ?_
            refine wpAnyH_take (i := 19) (d := some 4) (.bool true) rfl (by kernel_rfl) rfl rfl (by kernel_rfl) (by kernel_rfl) (by kernel_rfl) (fun _ => by kernel_rfl) ?_
            refine ⟨by kernel_rfl, fun w10 hz => ?_⟩
            simp only [Act.put, List.setIfInBounds_toArray, List.set_cons_zero, List.set_cons_succ]
            have S14 := Lib.hid (S13.out.on hz.out.be)
            clear S13
            clear hz
            go_wp2
            go_ret
            exact ⟨rfl, S14.out.sx.be⟩
end Go.Proofs.YtipndddmjgjgpabDoor
