/- The exact law of BoardNew, walked. -/
import Derived.Test.YtiinifcepcaonaaBnwI
import Derived.Test.YtiinifcepcaonaaNtC
namespace Go.Proofs.Ytiinifcepcaonaa
open Go.RowKit

theorem mkn0_any (m : Int) (w : World) : Calls Try.prog 12 #[.slice none 0 0, .int .i64 m] w fun e w' => e = .returned (.int .i64 m) ∧ w = w' := by
  go_enter Try.func12, Try.ntmps12
  go_wp2
  go_loop [1, 5] (fun q i => q = .int .i64 m ∧ i = .int .i64 0) (fun _ _ => 0)
  case atStart => exact ⟨rfl, rfl⟩
  case round =>
    obtain ⟨rfl, rfl⟩ := hrel
    go_wp2
    go_ret
    exact ⟨rfl, rfl⟩
theorem mkb0_any (p m : Int) (w : World) : Calls Try.prog 7 #[.agg #[.int .i64 p, .slice none 0 0], .int .i64 m] w fun e w' => e = .returned (.int .i64 m) ∧ Below w.heap.size w w' := by
  go_enter Try.func7, Try.ntmps7
  go_wp2_with fail
  refine (mkn0_any m _).mono ?_
  rintro e w1 ⟨rfl, rfl⟩
  go_wp2
  go_ret
  exact ⟨rfl, below_grow _ _⟩
theorem hdn0_any (m : Int) (w : World) : Calls Try.prog 13 #[.slice none 0 0, .int .i64 m] w fun e w' => e = .returned (.int .i64 m) ∧ w = w' := by
  go_enter Try.func13, Try.ntmps13
  go_wp2
  go_loop [1, 5] (fun q i => q = .int .i64 m ∧ i = .int .i64 0) (fun _ _ => 0)
  case atStart => exact ⟨rfl, rfl⟩
  case round =>
    obtain ⟨rfl, rfl⟩ := hrel
    go_wp2
    go_ret
    exact ⟨rfl, rfl⟩
theorem hdb0_any (p m : Int) (w : World) (m0 : 0 ≤ m) : Calls Try.prog 8 #[.agg #[.int .i64 p, .slice none 0 0], .int .i64 m] w fun e w' => e = .returned (.int .i64 m) ∧ Below w.heap.size w w' := by
  have hm : ¬ m < 0 := by omega
  go_enter Try.func8, Try.ntmps8
  go_wp2_with fail
  refine (hdn0_any m _).mono ?_
  rintro e w1 ⟨rfl, rfl⟩
  go_wp2
  go_ret
  exact ⟨rfl, below_grow _ _⟩
theorem nts_nil (w : World) : Nts w (.slice none 0 0) [] := .inl ⟨rfl, rfl⟩
set_option maxHeartbeats 1600000 in
theorem xBoardNew_walk (n0 : Int) (w : World) : Calls Try.prog 3 #[.int .i64 n0] w fun e w' => e = .returned (.bool true) ∧ Below w.heap.size w w' := by
  obtain ⟨PG, hPG⟩ : ∃ r, bnwG n0 = r := ⟨_, rfl⟩
  have HPG := Lib.hid hPG
  clear hPG
  go_enter Try.func3, Try.ntmps3
  go_wp2_with fail
  refine (sbnw_any n0 _).mono ?_
  rintro e w1 ⟨v, rfl, oo, hb⟩
  rw [HPG.out]
  obtain ⟨a0, c0, ef⟩ := OwnN.form oo
  simp only [List.length_nil] at ef
  subst ef
  obtain ⟨w2, hw2⟩ : ∃ z, z = w1.alloc (.cells #[.int .i64 PG, .slice a0 0 c0] 24) := ⟨_, rfl⟩
  have B2 := Lib.hid (show Below w.heap.size w w2 by rw [hw2]; exact Below.on hb (below_grow _ _))
  have X2 := Lib.hid (show Box w2 w1.heap.size [.int .i64 PG, .slice a0 0 c0] by rw [hw2]; exact Box.made _ [.int .i64 PG, .slice a0 0 c0] _)
  have N2 := Lib.hid (show Nts w2 (.slice a0 0 c0) [] by rw [hw2]; exact (Nts.of_own oo (by simp)).on (below_grow _ _))
  have HW2 := Lib.hid hw2
  clear hw2 oo hb
  go_wp2_with fail
  rw [← HW2.out]
  refine (ibnw0 n0 _).mono ?_
  rintro e w3 ⟨rfl, hb⟩
  rw [HPG.out]
  obtain ⟨w4, hw4⟩ : ∃ z, z = w3.alloc (.cells #[.int .i64 PG, .slice none 0 0] 24) := ⟨_, rfl⟩
  have hb4 : Below w2.heap.size w2 w4 := by rw [hw4]; exact Below.on hb (below_grow _ _)
  have B4 := Lib.hid (Below.on B2.out hb4)
  have X4 := Lib.hid (X2.out.on hb4)
  have N4 := Lib.hid (N2.out.on hb4)
  have Y4 := Lib.hid (show Box w4 w3.heap.size [.int .i64 PG, .slice none 0 0] by rw [hw4]; exact Box.made _ [.int .i64 PG, .slice none 0 0] _)
  have HW4 := Lib.hid hw4
  clear hw4 hb hb4 X2 N2 B2
  go_upto_region 3 with (fail)
  rw [← HW4.out]
  have qY40 := Y4.out.cell 0
  have qY41 := Y4.out.cell 1
  have qX40 := X4.out.cell 0
  have qX41 := X4.out.cell 1
  simp at qY40 qY41 qX40 qX41
  go_wp2_with fail
  refine (eqbd_any PG _ _ [] _ (nts_nil _) N4.out).mono ?_
  rintro e w5 ⟨rfl, hb⟩
  have X5 := Lib.hid (X4.out.on hb)
  clear X4 qX40 qX41
  have N5 := Lib.hid (N4.out.on hb)
  clear N4 
  have Y5 := Lib.hid (Y4.out.on hb)
  clear Y4 qY40 qY41
  have B5 := Lib.hid (Below.on B4.out hb)
  clear B4 
  clear hb
  have qY50 := Y5.out.cell 0
  have qY51 := Y5.out.cell 1
  simp at qY50 qY51
  go_wp2_with fail
  refine (mkb0_any PG 1 _).mono ?_
  rintro e w6 ⟨rfl, hb⟩
  have X6 := Lib.hid (X5.out.on hb)
  clear X5 
  have N6 := Lib.hid (N5.out.on hb)
  clear N5 
  have Y6 := Lib.hid (Y5.out.on hb)
  clear Y5 qY50 qY51
  have B6 := Lib.hid (Below.on B5.out hb)
  clear B5 
  clear hb
  have qY60 := Y6.out.cell 0
  have qY61 := Y6.out.cell 1
  simp at qY60 qY61
  go_wp2_with fail
  refine (hdb0_any PG 1 _ (by omega)).mono ?_
  rintro e w7 ⟨rfl, hb⟩
  have X7 := Lib.hid (X6.out.on hb)
  clear X6 
  have N7 := Lib.hid (N6.out.on hb)
  clear N6 
  have Y7 := Lib.hid (Y6.out.on hb)
  clear Y6 qY60 qY61
  have B7 := Lib.hid (Below.on B6.out hb)
  clear B6 
  clear hb
  go_wp2_with fail
  refine (ibnw0 n0 _).mono ?_
  rintro e w8 ⟨rfl, hb⟩
  rw [HPG.out]
  obtain ⟨w9, hw9⟩ : ∃ z, z = w8.alloc (.cells #[.int .i64 PG, .slice none 0 0] 24) := ⟨_, rfl⟩
  have hb9 : Below w7.heap.size w7 w9 := by rw [hw9]; exact Below.on hb (below_grow _ _)
  have B9 := Lib.hid (Below.on B7.out hb9)
  have X9 := Lib.hid (X7.out.on hb9)
  have N9 := Lib.hid (N7.out.on hb9)
  have Y9 := Lib.hid (Y7.out.on hb9)
  have Z9 := Lib.hid (show Box w9 w8.heap.size [.int .i64 PG, .slice none 0 0] by rw [hw9]; exact Box.made _ [.int .i64 PG, .slice none 0 0] _)
  have HW9 := Lib.hid hw9
  clear hw9 hb hb9 X7 N7 B7 Y7
  go_upto_region 14 with (fail)
  rw [← HW9.out]
  have qZ90 := Z9.out.cell 0
  have qZ91 := Z9.out.cell 1
  have qX90 := X9.out.cell 0
  have qX91 := X9.out.cell 1
  simp at qZ90 qZ91 qX90 qX91
  go_wp2_with fail
  refine (eqbd_any PG _ _ [] _ (nts_nil _) N9.out).mono ?_
  rintro e w10 ⟨rfl, hb⟩
  have X10 := Lib.hid (X9.out.on hb)
  clear X9 qX90 qX91
  have N10 := Lib.hid (N9.out.on hb)
  clear N9 
  have Y10 := Lib.hid (Y9.out.on hb)
  clear Y9 
  have B10 := Lib.hid (Below.on B9.out hb)
  clear B9 
  have Z10 := Lib.hid (Z9.out.on hb)
  clear Z9 qZ90 qZ91
  clear hb
  have qY100 := Y10.out.cell 0
  have qY101 := Y10.out.cell 1
  simp at qY100 qY101
  go_wp2_with fail
  refine (hdb0_any PG 1 _ (by omega)).mono ?_
  rintro e w11 ⟨rfl, hb⟩
  have X11 := Lib.hid (X10.out.on hb)
  clear X10 
  have N11 := Lib.hid (N10.out.on hb)
  clear N10 
  have Y11 := Lib.hid (Y10.out.on hb)
  clear Y10 qY100 qY101
  have B11 := Lib.hid (Below.on B10.out hb)
  clear B10 
  have Z11 := Lib.hid (Z10.out.on hb)
  clear Z10 
  clear hb
  go_wp2
  go_ret
  exact ⟨rfl, B11.out⟩
end Go.Proofs.Ytiinifcepcaonaa
