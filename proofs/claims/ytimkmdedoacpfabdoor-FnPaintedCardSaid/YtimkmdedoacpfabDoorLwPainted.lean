/- The law FnPainted, walked. -/
import Derived.Test.YtimkmdedoacpfabDoorDrV
import Derived.Test.YtimkmdedoacpfabDoorColK
import Derived.Test.YtimkmdedoacpfabDoorColS
import Derived.Test.YtimkmdedoacpfabDoorBLaw
import Derived.Deep.Cut
namespace Go.Proofs.YtimkmdedoacpfabDoor
open Go.RowKit

theorem pt_form {w : World} {v : Value} {xs : List Int} (h : Ints w v xs) : ∃ a c, v = .slice a xs.length c := by
  obtain ⟨a, c, e, _⟩ := h.opened
  exact ⟨a, c, e⟩
/-- What the law says of colours painted: P37. -/
structure PtF (p : Int) (es cs o XS : List Int) : Prop where
  ok : fitB p es XS = true
  ok0 : fitB p es cs = true
  back : pnL p es XS (bkL o) = cs
  same : foL p es XS = foL p es cs
theorem pt_facts {p : Int} {es cs o : List Int} (h : 0 < (pnL p es cs o).length) : PtF p es cs o (pnL p es cs o) := by
  cases hb : pnB p es cs o
  · rw [pnL_no hb] at h; simp at h
  obtain ⟨f, ho⟩ := pnB_true.1 hb
  have h3 : (o.length : Int) = 3 := ho.len
  have hy : odB o o.length = true := odB_true.2 (by rw [h3]; exact ho)
  have g := f.paint ho
  rw [pnL_yes hb]
  refine ⟨fitB_true.2 g, fitB_true.2 f, ?_, ?_⟩
  · rw [bkL_yes hy, pnL_yes (pnB_true.2 ⟨g, bck_od ho⟩)]; exact f.paint_back ho
  · rw [foL_yes (fitB_true.2 g), foL_yes (fitB_true.2 f)]; exact f.paint_fls ho
theorem bkL_short {o : List Int} (h : o.length ≤ 50) : (bkL o).length ≤ 100 := by unfold bkL; split; · { rw [bck_len]; omega }; · simp

set_option maxRecDepth 100000 in
set_option maxHeartbeats 3200000 in
theorem lPainted_walk (s : Value) (w : World) (h : CodeIn w s) (G : Gr w) : Calls Tryd.prog 6 #[s] w fun e w' => e = .returned (.bool true) ∧ Below w.heap.size w w' := by
  obtain ⟨a0, len0, cap0, rfl⟩ := h.slice
  have H := Lib.hid h; clear h
  have G0 := Lib.hid G; clear G
  by_cases hl : 1048576 < len0
  · go_enter Tryd.func6, Tryd.ntmps6
    go_wp2
    go_ret
    exact ⟨rfl, Below.refl _ _⟩
  go_enter Tryd.func6, Tryd.ntmps6
  go_wp2_with fail
  refine (drawPainted_any _ _ H.out).mono ?_
  rintro e w1 ⟨p, v, es, u, cs, ov, os, rfl, p0, p5, hx, hy, hz, hb⟩
  have HX := Lib.hid hx
  have HY := Lib.hid hy
  have HZ := Lib.hid hz
  clear hx hy hz
  have S1 := Lib.hid (Lq.start hb)
  clear hb
  have ip : intIn p := ⟨by omega, by omega⟩
  have IP := Lib.hid ip
  clear ip
  obtain ⟨va, vc, e1⟩ := pt_form HX.out.ints
  subst e1
  obtain ⟨ua, uc, e2⟩ := pt_form HY.out.ints
  subst e2
  obtain ⟨oa, oc, e3⟩ := pt_form HZ.out.ints
  subst e3
  have S2 := Lib.hid (S1.out.more HZ.out)
  clear S1
  have S3 := Lib.hid (S2.out.more HY.out)
  clear S2
  have S4 := Lib.hid (S3.out.more HX.out)
  clear S3
  clear HX HY HZ
  obtain ⟨w2, hw2⟩ : ∃ z, z = w1.alloc (.cells #[.int .i64 p, .slice va es.length vc] 25) := ⟨_, rfl⟩
  have S5 : Hid (Lq w [(.slice va es.length vc, es), (.slice ua cs.length uc, cs), (.slice oa os.length oc, os)] [(w1.heap.size, [.int .i64 p, .slice va es.length vc])] [] w2) := Lib.hid (by rw [hw2]; exact S4.out.made [.int .i64 p, .slice va es.length vc] _)
  clear S4
  have Hw2 := Lib.hid hw2
  clear hw2
  obtain ⟨XS, hXS⟩ : ∃ r, pnL p es cs os = r := ⟨_, rfl⟩
  obtain ⟨FS, hFS⟩ : ∃ r, foL p es cs = r := ⟨_, rfl⟩
  have HPF : Hid (0 < XS.length → PtF p es cs os XS) := Lib.hid (by rw [← hXS]; exact pt_facts)
  have HXL : Hid (XS.length ≤ maxLen) := Lib.hid (by rw [← hXS]; exact Nat.le_trans pnL_few (by unfold maxLen; omega))
  have HFL : Hid (FS.length ≤ maxLen) := Lib.hid (by rw [← hFS]; exact Nat.le_trans foL_few (by unfold maxLen; omega))
  have HXS := Lib.hid hXS
  have HFS := Lib.hid hFS
  clear hXS hFS
  have q3_0 := (S5.out.sx.bx _ (.head _)).cell 0
  have q3_1 := (S5.out.sx.bx _ (.head _)).cell 1
  simp at q3_0 q3_1
  rw [Hw2.out] at q3_0 q3_1
  go_wp2_with fail
  rw [← Hw2.out]
  refine (ipt_any p _ _ _ es cs os _ (S5.out.li _ (.head _)).ints (S5.out.li _ (.tail _ (.head _))).ints (S5.out.li _ (.tail _ (.tail _ (.head _)))).ints (S5.out.li _ (.tail _ (.tail _ (.head _)))).cap (S5.out.li _ (.head _)).num).mono ?_
  rintro e w3 ⟨v9, rfl, oo, hb⟩
  rw [HXS.out] at oo
  obtain ⟨A1, A1c, ef⟩ := Own.form oo
  subst ef
  clear q3_0 q3_1
  have S6 := Lib.hid (S5.out.on hb)
  clear S5
  have S7 := Lib.hid (S6.out.add (Hl.mk1 oo))
  clear S6
  clear hb oo
  have q3_0 := (S7.out.sx.bx _ (.head _)).cell 0
  have q3_1 := (S7.out.sx.bx _ (.head _)).cell 1
  simp at q3_0 q3_1
  go_wp2_with fail
  refine (spt_any p _ _ _ es cs os _ (S7.out.li _ (.head _)).ints (S7.out.li _ (.tail _ (.head _))).ints (S7.out.li _ (.tail _ (.tail _ (.head _)))).ints IP.out (S7.out.li _ (.head _)).num).mono ?_
  rintro e w4 ⟨v9, rfl, oo, hb⟩
  rw [HXS.out] at oo
  obtain ⟨A2, A2c, ef⟩ := Own.form oo
  subst ef
  clear q3_0 q3_1
  have S8 := Lib.hid (S7.out.on hb)
  clear S7
  have S9 := Lib.hid (S8.out.add (Hl.mk1 oo))
  clear S8
  clear hb oo
  go_wp2_with fail
  refine (same_eq _ _ XS _ (Ints.of_own (S9.out.sx.ls _ (.tail _ (.head _))).1 HXL.out) (Ints.of_own (S9.out.sx.ls _ (.head _)).1 HXL.out)).mono ?_
  rintro e w5 ⟨rfl, hb⟩
  have S10 := Lib.hid (S9.out.on hb)
  clear S9
  clear hb
  by_cases h0 : XS.length = 0
  · have hl0 : (((XS.length : Nat) : Int) == 0) = true := by simp [h0]
    clear h0
    go_wp2_with fail
    refine (alive_any _ (G0.out.on S10.out.sx.be)).mono ?_
    rintro e w6 ⟨rfl, rfl⟩
    go_wp2
    go_ret
    exact ⟨rfl, S10.out.sx.be⟩
  · have hl0 : (((XS.length : Nat) : Int) == 0) = false := by simpa using h0
    have HF := Lib.hid (HPF.out (by omega))
    clear h0
    have q3_0 := (S10.out.sx.bx _ (.head _)).cell 0
    have q3_1 := (S10.out.sx.bx _ (.head _)).cell 1
    simp at q3_0 q3_1
    go_wp2_with fail
    refine (ifo_any p _ _ es cs _ (S10.out.li _ (.head _)).ints (S10.out.li _ (.tail _ (.head _))).ints (S10.out.li _ (.head _)).num).mono ?_
    rintro e w7 ⟨v9, rfl, oo, hb⟩
    rw [HF.out.ok0]
    rw [HFS.out] at oo
    obtain ⟨A3, A3c, ef⟩ := Own.form oo
    subst ef
    clear q3_0 q3_1
    have S11 := Lib.hid (S10.out.on hb)
    clear S10
    have S12 := Lib.hid (S11.out.add (Hl.mk1 oo))
    clear S11
    clear hb oo
    clear hl0
    have q3_0 := (S12.out.sx.bx _ (.head _)).cell 0
    have q3_1 := (S12.out.sx.bx _ (.head _)).cell 1
    simp at q3_0 q3_1
    go_wp2_with fail
    refine (ifo_any p _ _ es XS _ (S12.out.li _ (.head _)).ints (Ints.of_own (S12.out.sx.ls _ (.tail _ (.tail _ (.head _)))).1 HXL.out) (S12.out.li _ (.head _)).num).mono ?_
    rintro e w8 ⟨v9, rfl, oo, hb⟩
    rw [HF.out.ok]
    rw [HF.out.same, HFS.out] at oo
    obtain ⟨A4, A4c, ef⟩ := Own.form oo
    subst ef
    clear q3_0 q3_1
    have S13 := Lib.hid (S12.out.on hb)
    clear S12
    have S14 := Lib.hid (S13.out.add (Hl.mk1 oo))
    clear S13
    clear hb oo
    go_wp2_with fail
    apply wp_region_H (Z := List Cp × Option (Nat × List Value)) (S := fun k => k == 3 || k == 4 || k == 6 || k == 13) (C := fun z w' => Hid (Zx w8 z.1 z.2 w')) [0, 1, 2, 5] ([], none)
    · kernel_rfl
    · kernel_rfl
    · kernel_rfl
    · exact ⟨rfl, rfl, rfl, rfl, trivial⟩
    · rfl
    · decide
    · exact Lib.hid (Zx.start (Below.refl _ _).drew)
    · intro z
      dsimp only [pickL, nthO]
      go_big_quiet_want
      go_big_quiet_op
      refine ⟨.agg #[.int .i64 p, .slice va es.length vc], fun w' hw' => ?_, ?_⟩
      · have q9 := (S14.out.on hw'.out.be).sx.bx _ (.head _)
        have q0 := q9.cell 0
        have q1 := q9.cell 1
        simp at q0 q1
        simp [go_sem, q0, q1]
      go_big_quiet_on
      go_big_quiet_want; go_big_quiet_op; first | go_big_quiet_on | (refine ⟨_, fun _ _ => rfl, ?_⟩; go_big_quiet_on)
      go_big_quiet_want; go_big_quiet_op; first | go_big_quiet_on | (refine ⟨_, fun _ _ => rfl, ?_⟩; go_big_quiet_on)
      go_big_quiet_want; go_big_quiet_op; first | go_big_quiet_on | (refine ⟨_, fun _ _ => rfl, ?_⟩; go_big_quiet_on)
      exact wpQuiet_nil rfl
    · skip
      refine wpAnyH_call (i := 3) (d := some 50) 32 #[.slice oa os.length oc] rfl (by kernel_rfl) rfl rfl (by kernel_rfl) (fun _ => by kernel_rfl) fun wa hc => ?_
      refine (ibck_any _ os wa ((Lib.hid (S14.out.on hc.out.be)).out.li _ (.tail _ (.tail _ (.head _)))).ints ((Lib.hid (S14.out.on hc.out.be)).out.li _ (.tail _ (.tail _ (.head _)))).cap).mono ?_
      rintro e wb ⟨z9, rfl, oz, hb⟩
      refine ⟨_, rfl, ([.l wa.heap.size wb.heap.size z9 (bkL os)], none), Lib.hid (hc.out.add hb (Hl.mk1 oz) (Nat.le_refl _)), ?_⟩
      clear hc oz hb
      refine wpAnyH_call (i := 4) (d := some 51) 24 #[.agg #[.int .i64 p, .slice va es.length vc], .slice A1 XS.length A1c, z9] rfl (by kernel_rfl) rfl rfl (by kernel_rfl) (fun _ => by kernel_rfl) fun wc hc => ?_
      refine (ipt_any p _ _ _ es XS (bkL os) wc ((Lib.hid (S14.out.on hc.out.be)).out.li _ (.head _)).ints (Ints.of_own ((Lib.hid (S14.out.on hc.out.be)).out.sx.ls _ (.tail _ (.tail _ (.tail _ (.head _))))).1 HXL.out) (Ints.of_own (hc.out.ls _ (.head _)).1 (Nat.le_trans (bkL_short (show os.length ≤ 50 from ((Lib.hid (S14.out.on hc.out.be)).out.li _ (.tail _ (.tail _ (.head _)))).few)) (by unfold maxLen; omega))) (hc.out.ls _ (.head _)).1.capped ((Lib.hid (S14.out.on hc.out.be)).out.li _ (.head _)).num).mono ?_
      rintro e wd ⟨y9, rfl, oo, hb⟩
      rw [HF.out.back] at oo
      refine ⟨_, rfl, ([.l wc.heap.size wd.heap.size y9 cs], none), Lib.hid ((hc.out.sub (L' := []) (fun _ m => (by cases m))).add hb (Hl.mk1 oo) (Nat.le_refl _)), ?_⟩
      clear hc oo hb
      refine wpAnyH_call (i := 6) (d := some 53) 18 #[y9, .slice ua cs.length uc] rfl (by kernel_rfl) rfl rfl (by kernel_rfl) (fun _ => by kernel_rfl) fun we hc => ?_
      refine (same_eq y9 _ cs we (Ints.of_own (hc.out.ls _ (.head _)).1 (Nat.le_trans (show cs.length ≤ 50 from ((Lib.hid (S14.out.on hc.out.be)).out.li _ (.tail _ (.head _))).few) (by unfold maxLen; omega))) ((Lib.hid (S14.out.on hc.out.be)).out.li _ (.tail _ (.head _))).ints).mono ?_
      rintro e wf ⟨rfl, hb⟩
      refine ⟨_, rfl, ([], none), Lib.hid ((hc.out.sub (L' := []) (fun _ m => (by cases m))).on hb), ?_⟩
      clear hc hb
      refine wpAnyH_take (i := 7) (d := some 54) (.bool true) rfl (by kernel_rfl) rfl rfl (by kernel_rfl) (by kernel_rfl) (by kernel_rfl) (fun _ => by kernel_rfl) ?_
      refine wpAnyH_take (i := 8) (d := some 55) (.bool true) rfl (by kernel_rfl) rfl rfl (by kernel_rfl) (by kernel_rfl) (by kernel_rfl) (fun _ => by kernel_rfl) ?_
      refine wpAnyH_take (i := 9) (d := some 56) (.bool true) rfl (by kernel_rfl) rfl rfl (by kernel_rfl) (by kernel_rfl) (by kernel_rfl) (fun _ => by kernel_rfl) ?_
      refine wpAnyH_take (i := 10) (d := some 57) (.bool true) rfl (by kernel_rfl) rfl rfl (by kernel_rfl) (by kernel_rfl) (by kernel_rfl) (fun _ => by kernel_rfl) ?_
      refine wpAnyH_take (i := 11) (d := some 58) (.slice A3 FS.length A3c) rfl (by kernel_rfl) rfl rfl (by kernel_rfl) (by kernel_rfl) (by kernel_rfl) (fun _ => by kernel_rfl) ?_
      refine wpAnyH_take (i := 12) (d := some 59) (.slice A4 FS.length A4c) rfl (by kernel_rfl) rfl rfl (by kernel_rfl) (by kernel_rfl) (by kernel_rfl) (fun _ => by kernel_rfl) ?_
      refine wpAnyH_call (i := 13) (d := some 60) 18 #[.slice A3 FS.length A3c, .slice A4 FS.length A4c] rfl (by kernel_rfl) rfl rfl (by kernel_rfl) (fun _ => by kernel_rfl) fun wg hc => ?_
      refine (same_eq _ _ FS wg (Ints.of_own ((Lib.hid (S14.out.on hc.out.be)).out.sx.ls _ (.tail _ (.head _))).1 HFL.out) (Ints.of_own ((Lib.hid (S14.out.on hc.out.be)).out.sx.ls _ (.head _)).1 HFL.out)).mono ?_
      rintro e wh ⟨rfl, hb⟩
      refine ⟨_, rfl, ([], none), Lib.hid (hc.out.on hb), ?_⟩
      clear hc hb
      refine wpAnyH_take (i := 14) (d := some 61) (.bool true) rfl (by kernel_rfl) rfl rfl (by kernel_rfl) (by kernel_rfl) (by kernel_rfl) (fun _ => by kernel_rfl) ?_
      refine wpAnyH_take (i := 15) (d := some 2) (.bool true) rfl (by kernel_rfl) rfl rfl (by kernel_rfl) (by kernel_rfl) (by kernel_rfl) (fun _ => by kernel_rfl) ?_
      refine ⟨by kernel_rfl, fun w9 hz => ?_⟩
      simp only [Act.put, List.setIfInBounds_toArray, List.set_cons_zero, List.set_cons_succ]
      have S15 := Lib.hid (S14.out.on hz.out.be)
      clear S14
      clear hz
      go_wp2
      go_ret
      exact ⟨rfl, S15.out.sx.be⟩
end Go.Proofs.YtimkmdedoacpfabDoor
