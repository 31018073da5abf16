/- The exact law of Coloured, walked: spec's answer, impl's answer, and that both are the same; no argument is written to; the answer owns its memory. -/
import Derived.Test.YtimkmdedoacpfaaColK
import Derived.Test.YtimkmdedoacpfaaColS
import Derived.Test.YtimkmdedoacpfaaGrC
import Derived.Test.YtimkmdedoacpfaaBSol
import Derived.Deep.Cut
namespace Go.Proofs.Ytimkmdedoacpfaa
open Go.RowKit

set_option maxRecDepth 100000 in
set_option maxHeartbeats 12800000 in
theorem xColoured_walk (p0 : Int) (a0 : Option Addr) (c0 : Nat) (x0 : List Int) (a1 : Option Addr) (c1 : Nat) (x1 : List Int) (w : World) (h0 : ArgI w a0 x0) (m0 : x0.length ≤ maxLen) (ip0 : intIn p0) (ix0 : ∀ j, j < x0.length → intIn (nth x0 j)) (h1 : ArgI w a1 x1) (m1 : x1.length ≤ maxLen) :
    Calls Try.prog 4 #[.agg #[.int .i64 p0, .slice a0 x0.length c0], .slice a1 x1.length c1] w fun e w' => e = .returned (.bool true) ∧ Below w.heap.size w w' := by
  have HA0 := Lib.hid h0
  clear h0
  have IP0 := Lib.hid ip0
  have IX0 := Lib.hid ix0
  clear ip0 ix0
  have HA1 := Lib.hid h1
  clear h1
  obtain ⟨BB, hBB⟩ : ∃ r, cdB p0 x0 x1 = r := ⟨_, rfl⟩
  have HBB := Lib.hid hBB
  clear hBB
  have HM0 := Lib.hid m0
  clear m0
  unfold maxLen at m1
  have SS0 : Hid (Sx w [] [] w) := Lib.hid (Sx.start w)
  have SS1 : Hid (Sx w [(w.heap.size, [.int .i64 p0, .slice a0 x0.length c0])] [] (w.alloc (.cells #[.int .i64 p0, .slice a0 x0.length c0] 24))) := Lib.hid (SS0.out.made [.int .i64 p0, .slice a0 x0.length c0] 24)
  clear SS0
  by_cases s1 : x1.length ≤ 1048576
  case neg =>
    go_enter Try.func4, Try.ntmps4
    go_wp2
    go_ret
    exact ⟨rfl, SS1.out.be⟩
  obtain ⟨w1, hw1⟩ : ∃ z, z = (w.alloc (.cells #[.int .i64 p0, .slice a0 x0.length c0] 24)) := ⟨_, rfl⟩
  have S1 : Hid (Sx w [(w.heap.size, [.int .i64 p0, .slice a0 x0.length c0])] [] w1) := Lib.hid (by rw [hw1]; exact SS1.out)
  have Z1 : Hid (w1.heap.size = w.heap.size + 1) := Lib.hid (by rw [hw1]; simp)
  have Hw1 := Lib.hid hw1
  clear hw1 SS1
  go_enter Try.func4, Try.ntmps4
  go_wp2_with fail
  rw [← Hw1.out]
  refine (szgr_any p0 a0 x0.length c0 1048576 _ HM0.out (by omega) (by omega)).mono ?_
  rintro e w2 ⟨r0, rfl, hb, hres⟩
  have S2 := Lib.hid (S1.out.on hb)
  clear S1
  have Z2 : Hid (w1.heap.size ≤ w2.heap.size) := Lib.hid (hb.size)
  clear hb
  rcases hres with rfl | ⟨ra0, rb0, s0⟩
  · go_wp2
    go_ret
    exact ⟨rfl, S2.out.be⟩
  have rc0 : r0 ≤ 1048576 := by omega
  have qH0_0 := (S2.out.bx _ (.head _)).cell 0
  have qH0_1 := (S2.out.bx _ (.head _)).cell 1
  simp at qH0_0 qH0_1
  go_wp2_with fail
  refine (togr_any p0 a0 c0 x0 _ (HA0.out.on S2.out.be) s0).mono ?_
  rintro e w3 ⟨v9, rfl, oo, hb⟩
  clear qH0_0 qH0_1
  have S3 := Lib.hid (S2.out.on hb)
  clear S2
  have hz := hb.size
  obtain ⟨Azc0, Czc0, ef⟩ := Own.form oo
  subst ef
  have S4 := Lib.hid (S3.out.add (Hl.mk1 oo))
  clear S3
  have Z3 : Hid (w2.heap.size ≤ w3.heap.size) := Lib.hid (hz)
  clear hb oo hz
  go_wp2_with fail
  refine (toI_any a1 c1 x1 _ (HA1.out.on S4.out.be) s1).mono ?_
  rintro e w4 ⟨v9, rfl, oo, hb⟩
  have S5 := Lib.hid (S4.out.on hb)
  clear S4
  have hz := hb.size
  obtain ⟨Azc1, Czc1, ef⟩ := Own.form oo
  subst ef
  have S6 := Lib.hid (S5.out.add (Hl.mk1 oo))
  clear S5
  have Z4 : Hid (w3.heap.size ≤ w4.heap.size) := Lib.hid (hz)
  clear hb oo hz
  go_wp2_with fail
  refine (scd_any p0 _ _ x0 x1 _ (Ints.of_own (S6.out.ls _ (.tail _ (.head _))).1 (small20 s0)) (Ints.of_own (S6.out.ls _ (.head _)).1 (small20 s1)) IP0.out IX0.out).mono ?_
  rintro e w5 ⟨rfl, hb⟩
  try rw [HBB.out]
  have S7 := Lib.hid (S6.out.on hb)
  clear S6
  have hz := hb.size
  have Z5 : Hid (w4.heap.size ≤ w5.heap.size) := Lib.hid (hz)
  clear hb hz
  have qH0_0 := (S7.out.bx _ (.head _)).cell 0
  have qH0_1 := (S7.out.bx _ (.head _)).cell 1
  simp at qH0_0 qH0_1
  go_wp2_with fail
  refine (togr_any p0 a0 c0 x0 _ (HA0.out.on S7.out.be) s0).mono ?_
  rintro e w6 ⟨v9, rfl, oo, hb⟩
  clear qH0_0 qH0_1
  have S8 := Lib.hid (S7.out.on hb)
  clear S7
  have hz := hb.size
  obtain ⟨Ax0, Cx0, ef⟩ := Own.form oo
  subst ef
  have S9 := Lib.hid (S8.out.add (Hl.mk1 oo))
  clear S8
  have Z6 : Hid (w5.heap.size ≤ w6.heap.size) := Lib.hid (hz)
  clear hb oo hz
  obtain ⟨w7, hw7⟩ : ∃ z, z = w6.alloc (.cells #[.int .i64 p0, .slice Ax0 x0.length Cx0] 28) := ⟨_, rfl⟩
  have S10 : Hid (Sx w [(w6.heap.size, [.int .i64 p0, .slice Ax0 x0.length Cx0]), (w.heap.size, [.int .i64 p0, .slice a0 x0.length c0])] [.l w5.heap.size w6.heap.size (.slice Ax0 x0.length Cx0) x0, .l w3.heap.size w4.heap.size (.slice Azc1 x1.length Czc1) x1, .l w2.heap.size w3.heap.size (.slice Azc0 x0.length Czc0) x0] w7) := Lib.hid (by rw [hw7]; exact S9.out.made [.int .i64 p0, .slice Ax0 x0.length Cx0] _)
  clear S9
  have Z7 : Hid (w7.heap.size = w6.heap.size + 1) := Lib.hid (by rw [hw7]; simp)
  have Hw7 := Lib.hid hw7
  clear hw7
  go_wp2_with fail
  rw [← Hw7.out]
  refine (toI_any a1 c1 x1 _ (HA1.out.on S10.out.be) s1).mono ?_
  rintro e w8 ⟨v9, rfl, oo, hb⟩
  have S11 := Lib.hid (S10.out.on hb)
  clear S10
  have hz := hb.size
  obtain ⟨Ax1, Cx1, ef⟩ := Own.form oo
  subst ef
  have S12 := Lib.hid (S11.out.add (Hl.mk1 oo))
  clear S11
  have Z8 : Hid (w7.heap.size ≤ w8.heap.size) := Lib.hid (hz)
  clear hb oo hz
  have qx0_0 := (S12.out.bx _ (.head _)).cell 0
  have qx0_1 := (S12.out.bx _ (.head _)).cell 1
  simp at qx0_0 qx0_1
  go_wp2_with fail
  refine (icd_any p0 _ _ x0 x1 _ (Ints.of_own (S12.out.ls _ (.tail _ (.head _))).1 (small20 s0)) (Ints.of_own (S12.out.ls _ (.head _)).1 (small20 s1)) IX0.out).mono ?_
  rintro e w9 ⟨rfl, hb⟩
  clear qx0_0 qx0_1
  try rw [HBB.out]
  have S13 := Lib.hid (S12.out.on hb)
  clear S12
  have hz := hb.size
  have Z9 : Hid (w8.heap.size ≤ w9.heap.size) := Lib.hid (hz)
  clear hb hz
  have hbb : (BB != BB) = false := by simp
  go_wp2_with fail
  apply wp_region_H (Z := List Cp × Option (Nat × List Value)) (S := fun k => k == 2 || k == 3 || k == 4) (C := fun z w' => Hid (Zx w9 z.1 z.2 w')) [0, 1] ([], none)
  · kernel_rfl
  · kernel_rfl
  · kernel_rfl
  · exact ⟨rfl, rfl, trivial⟩
  · rfl
  · decide
  · exact Lib.hid (Zx.start (Below.refl _ _).drew)
  · intro z
    dsimp only [pickL, nthO]
    go_big_quiet_want
    go_big_quiet_op
    refine ⟨.agg #[.int .i64 p0, .slice Ax0 x0.length Cx0], fun w' hw' => ?_, ?_⟩
    · have q9 := (S13.out.on hw'.out.be).bx _ (.head _)
      have q0 := q9.cell 0
      have q1 := q9.cell 1
      simp at q0 q1
      simp [go_sem, q0, q1]
    go_big_quiet_on
    go_big_quiet_want
    go_big_quiet_op
    refine ⟨.agg #[.int .i64 p0, .slice a0 x0.length c0], fun w' hw' => ?_, ?_⟩
    · have q9 := (S13.out.on hw'.out.be).bx _ (.tail _ (.head _))
      have q0 := q9.cell 0
      have q1 := q9.cell 1
      simp at q0 q1
      simp [go_sem, q0, q1]
    go_big_quiet_on
    exact wpQuiet_nil rfl
  · skip
    refine wpAnyH_call (i := 2) (d := some 35) 17 #[.agg #[.int .i64 p0, .slice a0 x0.length c0]] rfl (by kernel_rfl) rfl rfl (by kernel_rfl) (fun _ => by kernel_rfl) fun wae0 hc => ?_
    refine (togr_any p0 a0 c0 x0 wae0 (HA0.out.on (S13.out.on hc.out.be).be) s0).mono ?_
    rintro e wbe0 ⟨ve0, rfl, oo, hb⟩
    refine ⟨_, rfl, ([.l wae0.heap.size wbe0.heap.size ve0 x0], none), Lib.hid (hc.out.add hb (Hl.mk1 oo) (Nat.le_refl _)), ?_⟩
    clear oo hb hc
    refine wpAnyH_call (i := 3) (d := some 36) 21 #[.agg #[.int .i64 p0, .slice Ax0 x0.length Cx0], .agg #[.int .i64 p0, ve0]] rfl (by kernel_rfl) rfl rfl (by kernel_rfl) (fun _ => by kernel_rfl) fun wc hc => ?_
    refine (eqgr_any p0 _ _ x0 wc (Ints.of_own ((Lib.hid (S13.out.on hc.out.be)).out.ls _ (.tail _ (.head _))).1 (small20 s0)) (Ints.of_own (hc.out.ls _ (.head _)).1 (small20 s0))).mono ?_
    rintro e wd ⟨rfl, hb⟩
    refine ⟨_, rfl, ([], none), Lib.hid ((hc.out.on hb).sub (fun _ m => (by cases m))), ?_⟩
    clear hb hc
    refine wpAnyH_special (i := 4) (d := some 37) rfl (by kernel_rfl) rfl rfl (by kernel_rfl) fun wy hcy => ⟨.bool false, wy, ([], none), .inl (by kernel_rfl), hcy, ?_⟩
    refine ⟨by kernel_rfl, fun w10 hz => ?_⟩
    simp only [Act.put, List.setIfInBounds_toArray, List.set_cons_zero, List.set_cons_succ]
    have S14 := Lib.hid (S13.out.on hz.out.be)
    clear S13
    have Z10 : Hid (w9.heap.size ≤ w10.heap.size) := Lib.hid (hz.out.be.size)
    clear hz hcy
    go_wp2_with fail
    refine (toI_any a1 c1 x1 _ (HA1.out.on S14.out.be) s1).mono ?_
    rintro e w11 ⟨v9, rfl, oo, hb⟩
    have I9 := Lib.hid (Ints.of_own oo (small20 s1))
    have S15 := Lib.hid (S14.out.on hb)
    clear S14
    have Z11 : Hid (w10.heap.size ≤ w11.heap.size) := Lib.hid (hb.size)
    clear hb oo
    go_wp2_with fail
    refine (eqI_any _ v9 x1 _ (Ints.of_own (S15.out.ls _ (.head _)).1 (small20 s1)) I9.out).mono ?_
    rintro e w12 ⟨rfl, hb⟩
    have S16 := Lib.hid (S15.out.on hb)
    clear S15
    have Z12 : Hid (w11.heap.size ≤ w12.heap.size) := Lib.hid (hb.size)
    clear hb I9
    go_wp2
    go_ret
    exact ⟨rfl, S16.out.be⟩
end Go.Proofs.Ytimkmdedoacpfaa
