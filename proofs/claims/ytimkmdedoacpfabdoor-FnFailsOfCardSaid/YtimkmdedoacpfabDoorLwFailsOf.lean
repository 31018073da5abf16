/- The law FnFailsOf, walked. -/
import Derived.Test.YtimkmdedoacpfabDoorDrQ
import Derived.Test.YtimkmdedoacpfabDoorColK
import Derived.Test.YtimkmdedoacpfabDoorColS
import Derived.Test.YtimkmdedoacpfabDoorLwOrderOk
import Derived.Deep.Cut
namespace Go.Proofs.YtimkmdedoacpfabDoor
open Go.RowKit

/-- What the law says of the edges that fail: P36. -/
structure FoF (p : Int) (es FS : List Int) (n : Nat) : Prop where
  has : ∀ j, j < FS.length → hasB es (nth FS j) = true
  fit : fitB p es (List.replicate n 0) = true
  all : foL p es (List.replicate n 0) = es
theorem fo_facts {p : Int} {es cs : List Int} {n : Nat} (hn : p = (n : Int)) (h : fitB p es cs = true) : FoF p es (foL p es cs) n := by
  have f := fitB_true.1 h
  have hr := repl_fit f.gk
  rw [show p.toNat = n by omega] at hr
  refine ⟨fun j hj => ?_, fitB_true.2 hr, ?_⟩
  · rw [foL_yes h] at hj ⊢
    unfold hasB
    rw [List.contains_iff_mem]
    exact fls_mem (nth_mem hj)
  · rw [foL_yes (fitB_true.2 hr), fls_same]

set_option maxRecDepth 100000 in
set_option maxHeartbeats 12800000 in
theorem lFailsOf_walk (s : Value) (w : World) (h : CodeIn w s) (G : Gr w) : Calls Tryd.prog 3 #[s] w fun e w' => e = .returned (.bool true) ∧ Below w.heap.size w w' := by
  obtain ⟨a0, len0, cap0, rfl⟩ := h.slice
  have H := Lib.hid h; clear h
  have G0 := Lib.hid G; clear G
  by_cases hl : 1048576 < len0
  · go_enter Tryd.func3, Tryd.ntmps3
    go_wp2
    go_ret
    exact ⟨rfl, Below.refl _ _⟩
  go_enter Tryd.func3, Tryd.ntmps3
  go_wp2_with fail
  refine (drawFailsOf_any _ _ H.out).mono ?_
  rintro e w1 ⟨p, v, es, u, cs, rfl, p0, p5, hx, hy, hb⟩
  have HX := Lib.hid hx
  have HY := Lib.hid hy
  clear hx hy
  obtain ⟨pn, hpn⟩ := Int.eq_ofNat_of_zero_le p0
  subst hpn
  have S1 := Lib.hid (Lq.start hb)
  clear hb
  have ip : intIn (pn : Int) := ⟨by omega, by omega⟩
  have IP := Lib.hid ip
  clear ip
  obtain ⟨va, vc, e1⟩ := Own.form_ints HX.out.ints
  subst e1
  obtain ⟨ua, uc, e2⟩ := Own.form_ints HY.out.ints
  subst e2
  have S2 := Lib.hid (S1.out.more HY.out)
  clear S1
  have S3 := Lib.hid (S2.out.more HX.out)
  clear S2
  clear HX HY
  obtain ⟨w2, hw2⟩ : ∃ z, z = w1.alloc (.cells #[.int .i64 (pn : Nat), .slice va es.length vc] 25) := ⟨_, rfl⟩
  have S4 : Hid (Lq w [(.slice va es.length vc, es), (.slice ua cs.length uc, cs)] [(w1.heap.size, [.int .i64 (pn : Nat), .slice va es.length vc])] [] w2) := Lib.hid (by rw [hw2]; exact S3.out.made [.int .i64 (pn : Nat), .slice va es.length vc] _)
  clear S3
  have Hw2 := Lib.hid hw2
  clear hw2
  obtain ⟨BB, hBB⟩ : ∃ r, fitB pn es cs = r := ⟨_, rfl⟩
  obtain ⟨FS, hFS⟩ : ∃ r, foL pn es cs = r := ⟨_, rfl⟩
  have HFY : Hid (BB = true → FoF pn es FS pn) := Lib.hid (fun e => by rw [← hFS]; exact fo_facts rfl (hBB.trans e))
  have HFN : Hid (BB = false → FS = []) := Lib.hid (fun e => by rw [← hFS]; exact foL_no (hBB.trans e))
  have HFM : Hid (FS.length ≤ 50) := Lib.hid (by rw [← hFS]; exact foL_few)
  have HFL : Hid (FS.length ≤ maxLen) := Lib.hid (by have := HFM.out; unfold maxLen; omega)
  have HBB := Lib.hid hBB
  have HFS := Lib.hid hFS
  clear hBB hFS
  have q3_0 := (S4.out.sx.bx _ (.head _)).cell 0
  have q3_1 := (S4.out.sx.bx _ (.head _)).cell 1
  simp at q3_0 q3_1
  rw [Hw2.out] at q3_0 q3_1
  go_wp2_with fail
  rw [← Hw2.out]
  refine (ifo_any pn _ _ es cs _ (S4.out.li _ (.head _)).ints (S4.out.li _ (.tail _ (.head _))).ints (S4.out.li _ (.head _)).num).mono ?_
  rintro e w3 ⟨v9, rfl, oo, hb⟩
  rw [HBB.out]
  rw [HFS.out] at oo
  obtain ⟨A1, A1c, ef⟩ := Own.form oo
  subst ef
  clear q3_0 q3_1
  have S5 := Lib.hid (S4.out.on hb)
  clear S4
  have S6 := Lib.hid (S5.out.add (Hl.mk1 oo))
  clear S5
  clear hb oo
  have q3_0 := (S6.out.sx.bx _ (.head _)).cell 0
  have q3_1 := (S6.out.sx.bx _ (.head _)).cell 1
  simp at q3_0 q3_1
  go_wp2_with fail
  refine (sfo_any pn _ _ es cs _ (S6.out.li _ (.head _)).ints (S6.out.li _ (.tail _ (.head _))).ints IP.out (S6.out.li _ (.head _)).num).mono ?_
  rintro e w4 ⟨v9, rfl, oo, hb⟩
  rw [HBB.out]
  rw [HFS.out] at oo
  obtain ⟨A2, A2c, ef⟩ := Own.form oo
  subst ef
  clear q3_0 q3_1
  have S7 := Lib.hid (S6.out.on hb)
  clear S6
  have S8 := Lib.hid (S7.out.add (Hl.mk1 oo))
  clear S7
  clear hb oo
  have d1 : (BB != BB) = false := by simp
  go_wp2_with fail
  refine (same_eq _ _ FS _ (Ints.of_own (S8.out.sx.ls _ (.tail _ (.head _))).1 HFL.out) (Ints.of_own (S8.out.sx.ls _ (.head _)).1 HFL.out)).mono ?_
  rintro e w5 ⟨rfl, hb⟩
  have S9 := Lib.hid (S8.out.on hb)
  clear S8
  clear hb
  clear d1
  cases BB
  · obtain rfl := HFN.out rfl
    go_wp2_with fail
    refine (alive_any _ (G0.out.on S9.out.sx.be)).mono ?_
    rintro e w6 ⟨rfl, rfl⟩
    go_wp2
    go_ret
    exact ⟨rfl, S9.out.sx.be⟩
  · have HF := Lib.hid (HFY.out rfl)
    obtain ⟨n, hn⟩ : ∃ n, FS.length = n := ⟨_, rfl⟩
    have HN := Lib.hid hn
    have HAT := Lib.hid (show ∀ j, j < n → ∃ gb, A1 = some ⟨gb, 0, none⟩ ∧ ∀ w', Hid (Lq w [(.slice va es.length vc, es), (.slice ua cs.length uc, cs)] [(w1.heap.size, [.int .i64 (pn : Nat), .slice va es.length vc])] [.l w3.heap.size w4.heap.size (.slice A2 FS.length A2c) FS, .l w2.heap.size w3.heap.size (.slice A1 FS.length A1c) FS] w') → w'.cell? ⟨gb, j, none⟩ = some (.int .i64 (nth FS j)) from fun j hj => by
      obtain ⟨a9, c9, e9, h9⟩ := (Ints.of_own (S9.out.sx.ls _ (.tail _ (.head _))).1 HFL.out).opened
      cases e9
      obtain ⟨gb, e8, _, _⟩ := h9.get j (by rw [hn]; exact hj)
      refine ⟨gb, e8, fun w' hw' => ?_⟩
      obtain ⟨a7, c7, e7, h7⟩ := (Ints.of_own (hw'.out.sx.ls _ (.tail _ (.head _))).1 HFL.out).opened
      cases e7
      obtain ⟨gb', e6, _, e5⟩ := h7.get j (by rw [hn]; exact hj)
      rw [e8] at e6
      cases e6
      exact e5)
    have SL : Hid (Lq w [(.slice va es.length vc, es), (.slice ua cs.length uc, cs)] [(w1.heap.size, [.int .i64 (pn : Nat), .slice va es.length vc])] [.l w3.heap.size w4.heap.size (.slice A2 FS.length A2c) FS, .l w2.heap.size w3.heap.size (.slice A1 FS.length A1c) FS] w5) := S9
    clear S9
    have hn50 := HFM.out
    rw [hn] at hn50 ⊢
    clear hn
    go_upto_region 11 with (fail)
    go_loopw [9] (fun i wr => ∃ j : Nat, j ≤ n ∧ i = .int .i64 j ∧ Hid (Lq w [(.slice va es.length vc, es), (.slice ua cs.length uc, cs)] [(w1.heap.size, [.int .i64 (pn : Nat), .slice va es.length vc])] [.l w3.heap.size w4.heap.size (.slice A2 FS.length A2c) FS, .l w2.heap.size w3.heap.size (.slice A1 FS.length A1c) FS] wr)) (fun i _ => n - (intOf i).toNat)
    case atStart => exact ⟨0, by omega, rfl, SL⟩
    case round =>
      clear SL
      obtain ⟨j, hj, rfl, SI⟩ := hrel
      obtain ⟨wo, rfl⟩ : ∃ wo : World, wo = wr := ⟨_, rfl⟩
      by_cases hjn : j < n
      · have hj1 : (j : Int) < (n : Int) := by omega
        obtain ⟨gb, rfl, hat⟩ := HAT.out j hjn
        have HA := Lib.hid hat
        have HH := Lib.hid (HF.out.has j (by rw [HN.out]; exact hjn))
        clear hat
        go_wp2_with fail
        apply wp_region_H (Z := List Cp × Option (Nat × List Value)) (S := fun k => k == 6) (C := fun z w' => Hid (Zx wo z.1 z.2 w')) [0, 1, 2, 3, 4, 5] ([], none)
        · kernel_rfl
        · kernel_rfl
        · kernel_rfl
        · exact ⟨rfl, rfl, rfl, rfl, rfl, rfl, trivial⟩
        · rfl
        · decide
        · exact Lib.hid (Zx.start (Below.refl _ _).drew)
        · intro z
          dsimp only [pickL, nthO]
          go_big_quiet_want; go_big_quiet_op; first | go_big_quiet_on | (refine ⟨_, fun _ _ => rfl, ?_⟩; go_big_quiet_on)
          go_big_quiet_want
          go_big_quiet_op
          refine ⟨.slice va es.length vc, fun w' hw' => ?_, ?_⟩
          · have q9 := (SI.out.on hw'.out.be).sx.bx _ (.head _)
            have q0 := q9.cell 1
            simp at q0
            simp [go_sem, q0]
          go_big_quiet_on
          go_big_quiet_want; go_big_quiet_op; first | go_big_quiet_on | (refine ⟨_, fun _ _ => rfl, ?_⟩; go_big_quiet_on)
          go_big_quiet_want; go_big_quiet_op; first | go_big_quiet_on | (refine ⟨_, fun _ _ => rfl, ?_⟩; go_big_quiet_on)
          go_big_quiet_want; go_big_quiet_op; first | go_big_quiet_on | (refine ⟨_, fun _ _ => rfl, ?_⟩; go_big_quiet_on)
          go_big_quiet_want
          go_big_quiet_op
          refine ⟨.int .i64 (nth FS j), fun w' hw' => ?_, ?_⟩
          · have q0 := HA.out w' (Lib.hid (SI.out.on hw'.out.be))
            simp [go_sem, q0]
          go_big_quiet_on
          exact wpQuiet_nil rfl
        · skip
          refine wpAnyH_call (i := 6) (d := some 61) 20 #[.slice va es.length vc, .int .i64 (nth FS j)] rfl (by kernel_rfl) rfl rfl (by kernel_rfl) (fun _ => by kernel_rfl) fun wa hc => ?_
          refine (has_any _ es (nth FS j) wa ((Lib.hid (SI.out.on hc.out.be)).out.li _ (.head _)).ints).mono ?_
          rintro e wb ⟨rfl, rfl⟩
          rw [HH.out]
          refine ⟨_, rfl, ([], none), Lib.hid hc.out, ?_⟩
          clear hc
          refine wpAnyH_take (i := 7) (d := some 62) (.bool false) rfl (by kernel_rfl) rfl rfl (by kernel_rfl) (by kernel_rfl) (by kernel_rfl) (fun _ => by kernel_rfl) ?_
          refine ⟨by kernel_rfl, fun w7 hz => ?_⟩
          simp only [Act.put, List.setIfInBounds_toArray, List.set_cons_zero, List.set_cons_succ]
          have S10 := Lib.hid (SI.out.on hz.out.be)
          clear SI
          clear hz
          go_wp2
          go_roundw
          case rel => exact ⟨j + 1, by omega, by go_num, S10⟩
          case measure => simp [intOf]; omega
      have hj1 : ¬ (j : Int) < (n : Int) := by omega
      clear hjn
      have HMK := Lib.hid (run_make_row' (P := Tryd.prog) 23 3 (.int .i64 0) 8 Tryd.underlying23 infoInt rfl .i64 .i64 pn (by omega) (by omega))
      go_wp2_with fail
      apply wp_region_H (Z := List Cp × Option (Nat × List Value)) (S := fun k => k == 3 || k == 4) (C := fun z w' => Hid (Zx wo z.1 z.2 w')) [0, 1, 2] ([], none)
      · kernel_rfl
      · kernel_rfl
      · kernel_rfl
      · exact ⟨rfl, rfl, rfl, trivial⟩
      · rfl
      · decide
      · exact Lib.hid (Zx.start (Below.refl _ _).drew)
      · intro z
        dsimp only [pickL, nthO]
        go_big_quiet_want
        go_big_quiet_op
        refine ⟨.agg #[.int .i64 (pn : Nat), .slice va es.length vc], fun w' hw' => ?_, ?_⟩
        · have q9 := (SI.out.on hw'.out.be).sx.bx _ (.head _)
          have q0 := q9.cell 0
          have q1 := q9.cell 1
          simp at q0 q1
          simp [go_sem, q0, q1]
        go_big_quiet_on
        go_big_quiet_want; go_big_quiet_op; first | go_big_quiet_on | (refine ⟨_, fun _ _ => rfl, ?_⟩; go_big_quiet_on)
        go_big_quiet_want
        go_big_quiet_op
        refine ⟨.int .i64 (pn : Nat), fun w' hw' => ?_, ?_⟩
        · have q9 := (SI.out.on hw'.out.be).sx.bx _ (.head _)
          have q0 := q9.cell 0
          simp at q0
          simp [go_sem, q0]
        go_big_quiet_on
        exact wpQuiet_nil rfl
      · skip
        refine wpAnyH_special (i := 3) (d := some 67) rfl (by kernel_rfl) rfl rfl (by kernel_rfl) fun wm hc => ⟨.slice (some ⟨wm.heap.size, 0, none⟩) pn pn, wm.alloc (.cells (madeCells #[.int .i64 0] pn) 3), ([.l wm.heap.size (wm.alloc (.cells (madeCells #[.int .i64 0] pn) 3)).heap.size (.slice (some ⟨wm.heap.size, 0, none⟩) pn pn) (List.replicate pn 0)], none), .inl (by have hmk := HMK.out wm; simp [go_sem, hmk]), Lib.hid (hc.out.add (below_grow wm _) (Hl.mk1 (own_make wm pn (by omega))) (Nat.le_refl _)), ?_⟩
        clear hc
        refine wpAnyH_call (i := 4) (d := some 68) 16 #[.agg #[.int .i64 (pn : Nat), .slice va es.length vc], .slice (some ⟨wm.heap.size, 0, none⟩) pn pn] rfl (by kernel_rfl) rfl rfl (by kernel_rfl) (fun _ => by kernel_rfl) fun wa hc => ?_
        refine (ifo_any pn _ _ es (List.replicate pn 0) wa ((Lib.hid (SI.out.on hc.out.be)).out.li _ (.head _)).ints (Ints.of_own (hc.out.ls _ (.head _)).1 (by rw [List.length_replicate]; unfold maxLen; omega)) ((Lib.hid (SI.out.on hc.out.be)).out.li _ (.head _)).num).mono ?_
        rintro e wb ⟨v9, rfl, oo, hb⟩
        rw [HF.out.fit]
        rw [HF.out.all] at oo
        refine ⟨_, rfl, ([.l wa.heap.size wb.heap.size v9 es], none), Lib.hid ((hc.out.sub (L' := []) (fun _ m => (by cases m))).add hb (Hl.mk1 oo) (Nat.le_refl _)), ?_⟩
        clear hc oo hb
        refine wpAnyH_take (i := 5) (d := some 63) (.tuple #[v9, .bool true]) rfl (by kernel_rfl) rfl rfl (by kernel_rfl) (by kernel_rfl) (by kernel_rfl) (fun _ => by kernel_rfl) ?_
        refine wpAnyH_take (i := 6) (d := some 69) (v9) rfl (by kernel_rfl) rfl rfl (by kernel_rfl) (by kernel_rfl) (by kernel_rfl) (fun _ => by kernel_rfl) ?_
        refine wpAnyH_take (i := 7) (d := some 70) (.bool true) rfl (by kernel_rfl) rfl rfl (by kernel_rfl) (by kernel_rfl) (by kernel_rfl) (fun _ => by kernel_rfl) ?_
        refine wpAnyH_take (i := 8) (d := some 10) (v9) rfl (by kernel_rfl) rfl rfl (by kernel_rfl) (by kernel_rfl) (by kernel_rfl) (fun _ => by kernel_rfl) ?_
        refine wpAnyH_take (i := 9) (d := some 11) (.bool true) rfl (by kernel_rfl) rfl rfl (by kernel_rfl) (by kernel_rfl) (by kernel_rfl) (fun _ => by kernel_rfl) ?_
        refine ⟨by kernel_rfl, fun w8 hz => ?_⟩
        simp only [Act.put, List.setIfInBounds_toArray, List.set_cons_zero, List.set_cons_succ]
        have OV := Lib.hid (hz.out.ls _ (.head _)).1
        have S11 := Lib.hid (SI.out.on hz.out.be)
        clear SI
        clear hz
        have q3_0 := (S11.out.sx.bx _ (.head _)).cell 0
        have q3_1 := (S11.out.sx.bx _ (.head _)).cell 1
        simp at q3_0 q3_1
        go_wp2_with fail
        refine (same_eq _ _ es _ (Ints.of_own OV.out (by have := (S11.out.li _ (.head _)).few; unfold maxLen; simp only at this; omega)) (S11.out.li _ (.head _)).ints).mono ?_
        rintro e w9 ⟨rfl, hb⟩
        clear q3_0 q3_1
        have S12 := Lib.hid (S11.out.on hb)
        clear S11
        clear hb
        go_wp2
        go_ret
        exact ⟨rfl, S12.out.sx.be⟩
end Go.Proofs.YtimkmdedoacpfabDoor
