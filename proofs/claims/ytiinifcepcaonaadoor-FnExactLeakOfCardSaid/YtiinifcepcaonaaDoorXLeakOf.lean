/- The exact law of LeakOf, walked: spec's answer, impl's answer, and that both are the same; no argument is written to; the answer owns its memory. -/
import Derived.Test.YtiinifcepcaonaaDoorLekI
import Derived.Test.YtiinifcepcaonaaDoorLekS
import Derived.Test.YtiinifcepcaonaaDoorNtC
import Derived.Test.YtiinifcepcaonaaDoorBSol
import Derived.Deep.Cut
namespace Go.Proofs.YtiinifcepcaonaaDoor
open Go.RowKit

set_option maxRecDepth 100000 in
set_option maxHeartbeats 12800000 in
theorem xLeakOf_walk (p0 : Int) (a0 : Option Addr) (c0 : Nat) (x0 : List Nt) (n1 : Int) (w : World) (G : Gr w) (h0 : ArgN w a0 x0) (m0 : x0.length ≤ maxLen) :
    Calls Tryd.prog 5 #[.agg #[.int .i64 p0, .slice a0 x0.length c0], .int .i64 n1] w fun e w' => e = .returned (.bool true) ∧ Below w.heap.size w w' := by
  have HGR := Lib.hid G
  clear G
  have HA0 := Lib.hid h0
  clear h0
  obtain ⟨UP, hUP⟩ : ∃ r, lekV p0 x0 n1 = r := ⟨_, rfl⟩
  obtain ⟨BB, hBB⟩ : ∃ r, lekB p0 x0 n1 = r := ⟨_, rfl⟩
  have HUP := Lib.hid hUP
  clear hUP
  have HBB := Lib.hid hBB
  clear hBB
  have HM0 := Lib.hid m0
  clear m0
  have SS0 : Hid (Sx w [] [] w) := Lib.hid (Sx.start w)
  have SS1 : Hid (Sx w [(w.heap.size, [.int .i64 p0, .slice a0 x0.length c0])] [] (w.alloc (.cells #[.int .i64 p0, .slice a0 x0.length c0] 24))) := Lib.hid (SS0.out.made [.int .i64 p0, .slice a0 x0.length c0] 24)
  clear SS0
  obtain ⟨w1, hw1⟩ : ∃ z, z = (w.alloc (.cells #[.int .i64 p0, .slice a0 x0.length c0] 24)) := ⟨_, rfl⟩
  have S1 : Hid (Sx w [(w.heap.size, [.int .i64 p0, .slice a0 x0.length c0])] [] w1) := Lib.hid (by rw [hw1]; exact SS1.out)
  have Z1 : Hid (w1.heap.size = w.heap.size + 1) := Lib.hid (by rw [hw1]; simp)
  have Hw1 := Lib.hid hw1
  clear hw1 SS1
  go_enter Tryd.func5, Tryd.ntmps5
  go_wp2_with fail
  rw [← Hw1.out]
  refine (szbd_any p0 a0 x0.length c0 1048576 _ HM0.out (by omega) (by omega)).mono ?_
  rintro e w2 ⟨r0, rfl, hb, hres⟩
  have S2 := Lib.hid (S1.out.on hb)
  clear S1
  have Z2 : Hid (w1.heap.size ≤ w2.heap.size) := Lib.hid (hb.size)
  clear hb
  rcases hres with rfl | ⟨ra0, rb0, s0⟩
  · go_wp2
    go_ret
    exact ⟨rfl, S2.out.be⟩
  have rc0 : r0 ≤ 1048576 := by omega
  have qH0_0 := (S2.out.bx _ (.head _)).cell 0
  have qH0_1 := (S2.out.bx _ (.head _)).cell 1
  simp at qH0_0 qH0_1
  go_wp2_with fail
  refine (tobd_any p0 a0 c0 x0 _ (HA0.out.on S2.out.be) s0).mono ?_
  rintro e w3 ⟨v9, rfl, oo, hb⟩
  clear qH0_0 qH0_1
  have S3 := Lib.hid (S2.out.on hb)
  clear S2
  have hz := hb.size
  obtain ⟨Azc0, Czc0, ef⟩ := OwnN.form oo
  subst ef
  have S4 := Lib.hid (S3.out.add (Hl.mkN oo))
  clear S3
  have Z3 : Hid (w2.heap.size ≤ w3.heap.size) := Lib.hid (hz)
  clear hb oo hz
  go_wp2_with fail
  refine (slk_any p0 _ x0 n1 _ (Nts.of_own (S4.out.ls _ (.head _)).1.1 (small20 s0)) (Nat.le_trans s0 (by omega))).mono ?_
  rintro e w4 ⟨rfl, hb⟩
  try rw [HUP.out]
  try rw [HBB.out]
  have S5 := Lib.hid (S4.out.on hb)
  clear S4
  have hz := hb.size
  have Z4 : Hid (w3.heap.size ≤ w4.heap.size) := Lib.hid (hz)
  clear hb hz
  have qH0_0 := (S5.out.bx _ (.head _)).cell 0
  have qH0_1 := (S5.out.bx _ (.head _)).cell 1
  simp at qH0_0 qH0_1
  go_wp2_with fail
  refine (tobd_any p0 a0 c0 x0 _ (HA0.out.on S5.out.be) s0).mono ?_
  rintro e w5 ⟨v9, rfl, oo, hb⟩
  clear qH0_0 qH0_1
  have S6 := Lib.hid (S5.out.on hb)
  clear S5
  have hz := hb.size
  obtain ⟨Ax0, Cx0, ef⟩ := OwnN.form oo
  subst ef
  have S7 := Lib.hid (S6.out.add (Hl.mkN oo))
  clear S6
  have Z5 : Hid (w4.heap.size ≤ w5.heap.size) := Lib.hid (hz)
  clear hb oo hz
  obtain ⟨w6, hw6⟩ : ∃ z, z = w5.alloc (.cells #[.int .i64 p0, .slice Ax0 x0.length Cx0] 29) := ⟨_, rfl⟩
  have S8 : Hid (Sx w [(w5.heap.size, [.int .i64 p0, .slice Ax0 x0.length Cx0]), (w.heap.size, [.int .i64 p0, .slice a0 x0.length c0])] [(cpN w4.heap.size w5.heap.size (.slice Ax0 x0.length Cx0) x0), (cpN w2.heap.size w3.heap.size (.slice Azc0 x0.length Czc0) x0)] w6) := Lib.hid (by rw [hw6]; exact S7.out.made [.int .i64 p0, .slice Ax0 x0.length Cx0] _)
  clear S7
  have Z6 : Hid (w6.heap.size = w5.heap.size + 1) := Lib.hid (by rw [hw6]; simp)
  have Hw6 := Lib.hid hw6
  clear hw6
  have qx0_0 := (S8.out.bx _ (.head _)).cell 0
  have qx0_1 := (S8.out.bx _ (.head _)).cell 1
  simp at qx0_0 qx0_1
  rw [Hw6.out] at qx0_0 qx0_1
  go_wp2_with fail
  rw [← Hw6.out]
  refine (ilk_any p0 _ x0 n1 _ (HGR.out.on S8.out.be) (Nts.of_own (S8.out.ls _ (.head _)).1.1 (small20 s0)) (Nat.le_trans s0 (by omega))).mono ?_
  rintro e w7 ⟨rfl, hb⟩
  clear qx0_0 qx0_1
  try rw [HUP.out]
  try rw [HBB.out]
  have S9 := Lib.hid (S8.out.on hb)
  clear S8
  have hz := hb.size
  have Z7 : Hid (w6.heap.size ≤ w7.heap.size) := Lib.hid (hz)
  clear hb hz
  have hbu : (UP != UP) = false := by simp
  have hbb : (BB != BB) = false := by simp
  go_wp2_with fail
  apply wp_region_H (Z := List Cp × Option (Nat × List Value)) (S := fun k => k == 2 || k == 3 || k == 4) (C := fun z w' => Hid (Zx w7 z.1 z.2 w')) [0, 1] ([], none)
  · kernel_rfl
  · kernel_rfl
  · kernel_rfl
  · exact ⟨rfl, rfl, trivial⟩
  · rfl
  · decide
  · exact Lib.hid (Zx.start (Below.refl _ _).drew)
  · intro z
    dsimp only [pickL, nthO]
    go_big_quiet_want
    go_big_quiet_op
    refine ⟨.agg #[.int .i64 p0, .slice Ax0 x0.length Cx0], fun w' hw' => ?_, ?_⟩
    · have q9 := (S9.out.on hw'.out.be).bx _ (.head _)
      have q0 := q9.cell 0
      have q1 := q9.cell 1
      simp at q0 q1
      simp [go_sem, q0, q1]
    go_big_quiet_on
    go_big_quiet_want
    go_big_quiet_op
    refine ⟨.agg #[.int .i64 p0, .slice a0 x0.length c0], fun w' hw' => ?_, ?_⟩
    · have q9 := (S9.out.on hw'.out.be).bx _ (.tail _ (.head _))
      have q0 := q9.cell 0
      have q1 := q9.cell 1
      simp at q0 q1
      simp [go_sem, q0, q1]
    go_big_quiet_on
    exact wpQuiet_nil rfl
  · skip
    refine wpAnyH_call (i := 2) (d := some 41) 12 #[.agg #[.int .i64 p0, .slice a0 x0.length c0]] rfl (by kernel_rfl) rfl rfl (by kernel_rfl) (fun _ => by kernel_rfl) fun wae0 hc => ?_
    refine (tobd_any p0 a0 c0 x0 wae0 (HA0.out.on (S9.out.on hc.out.be).be) s0).mono ?_
    rintro e wbe0 ⟨ve0, rfl, oo, hb⟩
    refine ⟨_, rfl, ([(cpN wae0.heap.size wbe0.heap.size ve0 x0)], none), Lib.hid (hc.out.add hb (Hl.mkN oo) (Nat.le_refl _)), ?_⟩
    clear oo hb hc
    refine wpAnyH_call (i := 3) (d := some 42) 14 #[.agg #[.int .i64 p0, .slice Ax0 x0.length Cx0], .agg #[.int .i64 p0, ve0]] rfl (by kernel_rfl) rfl rfl (by kernel_rfl) (fun _ => by kernel_rfl) fun wc hc => ?_
    refine (eqbd_any p0 _ _ x0 wc (Nts.of_own ((Lib.hid (S9.out.on hc.out.be)).out.ls _ (.head _)).1.1 (small20 s0)) (Nts.of_own (hc.out.ls _ (.head _)).1.1 (small20 s0))).mono ?_
    rintro e wd ⟨rfl, hb⟩
    refine ⟨_, rfl, ([], none), Lib.hid ((hc.out.on hb).sub (fun _ m => (by cases m))), ?_⟩
    clear hb hc
    refine wpAnyH_special (i := 4) (d := some 43) rfl (by kernel_rfl) rfl rfl (by kernel_rfl) fun wy hcy => ⟨.bool false, wy, ([], none), .inl (by kernel_rfl), hcy, ?_⟩
    refine ⟨by kernel_rfl, fun w8 hz => ?_⟩
    simp only [Act.put, List.setIfInBounds_toArray, List.set_cons_zero, List.set_cons_succ]
    have S10 := Lib.hid (S9.out.on hz.out.be)
    clear S9
    have Z8 : Hid (w7.heap.size ≤ w8.heap.size) := Lib.hid (hz.out.be.size)
    clear hz hcy
    go_wp2
    go_ret
    exact ⟨rfl, S10.out.be⟩
end Go.Proofs.YtiinifcepcaonaaDoor
