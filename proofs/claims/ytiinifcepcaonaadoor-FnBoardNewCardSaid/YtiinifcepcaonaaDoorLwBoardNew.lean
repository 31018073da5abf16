/- The law FnBoardNew, walked. -/
import Derived.Test.YtiinifcepcaonaaDoorLwSbd
import Derived.Test.YtiinifcepcaonaaDoorBnwI
import Derived.Test.YtiinifcepcaonaaDoorLekI
import Derived.Test.YtiinifcepcaonaaDoorRegionM
import Derived.Test.YtiinifcepcaonaaDoorBDraw
import Derived.Test.YtiinifcepcaonaaDoorBLaw
namespace Go.Proofs.YtiinifcepcaonaaDoor
open Go.RowKit

theorem drawBoardNew_any (s : Value) (w : World) (h : CodeIn w s) : Calls Tryd.prog 26 #[s] w (Draw1Post (-1) 5 w) := by
  go_enter Tryd.func26, Tryd.ntmps26
  go_wp2_with fail
  refine (open_any _ _ h).mono ?_
  rintro e w1 ⟨rfl, H1, hb1⟩
  have R1 := Lib.hid H1; clear H1
  have B1 := Lib.hid hb1
  have hs1 := hb1.size
  clear hb1 h
  go_wp2_with fail
  refine (pick_any _ _ _ _ R1.out (by omega)).mono ?_
  rintro e w2 ⟨v1, rfl, l1, u1, m1, hw⟩
  have u1 := u1 (by omega)
  have R2 : Hid (Rd w2 w.heap.size _) := Lib.hid (by rw [hw]; exact R1.out.next m1)
  have hg : w1.grownBy w2 (some w.heap.size) := by rw [hw]; exact grown_pick _ _ _ _
  have B2 := Lib.hid (below_of_grown B1.out hg hs1 (Nat.le_refl _))
  have hs2 := Nat.le_trans hs1 hg.size
  clear hg hw
  go_wp2
  go_ret
  exact ⟨_, rfl, by omega, by omega, B2.out⟩
theorem bnw_ok (g : Int) : brdB (bnwG g) [] = true := by
  cases h : gok g
  · rw [bnwG_no h]; exact brd_nil (by decide) (by decide)
  · rw [bnwG_yes h]; have := gok_true.1 h; exact brd_nil this.1 this.2
theorem konL_nil (g : Int) : konL g [] = [] := by unfold konL; split <;> rfl
set_option maxRecDepth 100000 in
set_option maxHeartbeats 6400000 in
theorem lBoardNew_walk (s : Value) (w : World) (h : CodeIn w s) (G : Gr w) : Calls Tryd.prog 7 #[s] w fun e w' => e = .returned (.bool true) ∧ Below w.heap.size w w' := by
  obtain ⟨a0, len0, cap0, rfl⟩ := h.slice
  have H := Lib.hid h; clear h
  have G0 := Lib.hid G; clear G
  by_cases hl : 1048576 < len0
  · go_enter Tryd.func7, Tryd.ntmps7
    go_wp2
    go_ret
    exact ⟨rfl, Below.refl _ _⟩
  go_enter Tryd.func7, Tryd.ntmps7
  go_wp2_with fail
  refine (drawBoardNew_any _ _ H.out).mono ?_
  rintro e w1 ⟨g, rfl, g0, g1, hb⟩
  obtain ⟨q, hq⟩ : ∃ q, bnwG g = q := ⟨_, rfl⟩
  have HB : Hid (brdB q [] = true) := Lib.hid (by rw [← hq]; exact bnw_ok g)
  have HQ := Lib.hid hq
  clear hq
  have S1 := Lib.hid (Lq.start hb)
  clear hb
  go_wp2_with fail
  refine (ibnw0 g _).mono ?_
  rintro e w2 ⟨rfl, hb⟩
  rw [HQ.out]
  have S2 := Lib.hid (S1.out.on hb)
  clear S1
  clear hb
  obtain ⟨w3, hw3⟩ : ∃ z, z = w2.alloc (.cells #[.int .i64 q, .slice none 0 0] 29) := ⟨_, rfl⟩
  have S3 : Hid (Lq w [] [(w2.heap.size, [.int .i64 q, .slice none 0 0])] [] w3) := Lib.hid (by rw [hw3]; exact S2.out.made [.int .i64 q, .slice none 0 0] _)
  clear S2
  have Hw3 := Lib.hid hw3
  clear hw3
  go_wp2_with fail
  rw [← Hw3.out]
  apply wp_region_H (Z := List Cp × Option (Nat × List Value)) (S := fun k => k == 2 || k == 3) (C := fun z w' => Hid (Zx w3 z.1 z.2 w')) [0, 1] ([], none)
  · kernel_rfl
  · kernel_rfl
  · kernel_rfl
  · exact ⟨rfl, rfl, trivial⟩
  · rfl
  · decide
  · exact Lib.hid (Zx.start (Below.refl _ _).drew)
  · intro z
    dsimp only [pickL, nthO]
    go_big_quiet_want
    go_big_quiet_op
    refine ⟨.agg #[.int .i64 q, .slice none 0 0], fun w' hw' => ?_, ?_⟩
    · have q9 := (S3.out.on hw'.out.be).sx.bx _ (.head _)
      have q0 := q9.cell 0
      have q1 := q9.cell 1
      simp at q0 q1
      simp [go_sem, q0, q1]
    go_big_quiet_on
    go_big_quiet_want; go_big_quiet_op; first | go_big_quiet_on | (refine ⟨_, fun _ _ => rfl, ?_⟩; go_big_quiet_on)
    exact wpQuiet_nil rfl
  · skip
    refine wpAnyH_call (i := 2) (d := some 14) 29 #[.int .i64 g] rfl (by kernel_rfl) rfl rfl (by kernel_rfl) (fun _ => by kernel_rfl) fun wa1 hc => ?_
    refine (sbnw_any g _).mono ?_
    rintro e wb1 ⟨v, rfl, oo, hb⟩
    rw [HQ.out]
    refine ⟨_, rfl, ([cpN wa1.heap.size wb1.heap.size v []], none), Lib.hid (hc.out.add hb (Hl.mkN oo) (Nat.le_refl _)), ?_⟩
    clear hb hc oo
    refine wpAnyH_call (i := 3) (d := some 15) 28 #[.agg #[.int .i64 q, .slice none 0 0], .agg #[.int .i64 q, v]] rfl (by kernel_rfl) rfl rfl (by kernel_rfl) (fun _ => by kernel_rfl) fun wa2 hc => ?_
    refine (sbd_any q (.slice none 0 0) v [] _ (.inl ⟨rfl, rfl⟩) (Nts.of_own (hc.out.ls _ (.head _)).1.1 (by unfold maxLen; simp))).mono ?_
    rintro e wb2 ⟨rfl, hb⟩
    refine ⟨_, rfl, ([cpN wa1.heap.size wb1.heap.size v []], none), Lib.hid (hc.out.on hb), ?_⟩
    clear hb hc
    refine wpAnyH_take (i := 4) (d := some 16) (.bool false) rfl (by kernel_rfl) rfl rfl (by kernel_rfl) (by kernel_rfl) (by kernel_rfl) (fun _ => by kernel_rfl) ?_
    refine ⟨by kernel_rfl, fun w4 hz => ?_⟩
    simp only [Act.put, List.setIfInBounds_toArray, List.set_cons_zero, List.set_cons_succ]
    have S4 := Lib.hid (S3.out.on hz.out.be)
    clear S3
    clear hz
    have q4_0 := (S4.out.sx.bx _ (.head _)).cell 0
    have q4_1 := (S4.out.sx.bx _ (.head _)).cell 1
    simp at q4_0 q4_1
    go_wp2_with fail
    refine (ibrd_any q (.slice none 0 0) [] _ (G0.out.on S4.out.sx.be) (.inl ⟨rfl, rfl⟩) (by simp)).mono ?_
    rintro e w5 ⟨rfl, hb⟩
    rw [HB.out]
    clear q4_0 q4_1
    have S5 := Lib.hid (S4.out.on hb)
    clear S4
    clear hb
    have q4_0 := (S5.out.sx.bx _ (.head _)).cell 0
    have q4_1 := (S5.out.sx.bx _ (.head _)).cell 1
    simp at q4_0 q4_1
    go_wp2_with fail
    refine (ikon_any q (.slice none 0 0) [] _ (G0.out.on S5.out.sx.be) (.inl ⟨rfl, rfl⟩) (by simp)).mono ?_
    rintro e w6 ⟨u, rfl, oo, hb⟩
    rw [show konL q [] = [] from konL_nil q] at oo
    clear q4_0 q4_1
    have S6 := Lib.hid (S5.out.on hb)
    clear S5
    obtain ⟨Au, Cu, eu⟩ := Own.form oo
    subst eu
    clear oo hb
    have q4_0 := (S6.out.sx.bx _ (.head _)).cell 0
    have q4_1 := (S6.out.sx.bx _ (.head _)).cell 1
    simp at q4_0 q4_1
    go_wp2_with fail
    refine (alive_any _ (G0.out.on S6.out.sx.be)).mono ?_
    rintro e w7 ⟨rfl, rfl⟩
    go_wp2
    go_ret
    exact ⟨rfl, S6.out.sx.be⟩
end Go.Proofs.YtiinifcepcaonaaDoor
