/- The exact law of TurnOk, walked: spec's answer, impl's answer, and that both are the same; no argument is written to; the answer owns its memory. -/
import Derived.Test.YtipndddmjgjgpaaTrnX
import Derived.Test.YtipndddmjgjgpaaGrC
import Derived.Test.YtipndddmjgjgpaaRegionL
import Derived.Deep.Cut
namespace Go.Proofs.Ytipndddmjgjgpaa
open Go.RowKit

set_option maxRecDepth 100000 in
set_option maxHeartbeats 12800000 in
theorem xTurnOk_walk (p0 : Int) (a0 : Option Addr) (c0 : Nat) (x0 : List Int) (p1 : Int) (a1 : Option Addr) (c1 : Nat) (x1 : List Int) (p2 : Int) (a2 : Option Addr) (c2 : Nat) (x2 : List Int) (n2 : Int) (b2 : Option Addr) (d2 : Nat) (y2 : List Int) (w : World) (h0 : ArgI w a0 x0) (m0 : x0.length ≤ maxLen) (ip0 : intIn p0) (ix0 : ∀ j, j < x0.length → intIn (nth x0 j)) (h1 : ArgI w a1 x1) (m1 : x1.length ≤ maxLen) (ip1 : intIn p1) (ix1 : ∀ j, j < x1.length → intIn (nth x1 j)) (h2 : ArgI w a2 x2) (m2 : x2.length ≤ maxLen) (k2 : ArgI w b2 y2) (o2 : y2.length ≤ maxLen) :
    Calls Try.prog 9 #[.agg #[.int .i64 p0, .slice a0 x0.length c0], .agg #[.int .i64 p1, .slice a1 x1.length c1], .agg #[.int .i64 p2, .slice a2 x2.length c2, .int .i64 n2, .slice b2 y2.length d2]] w fun e w' => e = .returned (.bool true) ∧ Below w.heap.size w w' := by
  have HA0 := Lib.hid h0
  clear h0
  have IP0 := Lib.hid ip0
  have IX0 := Lib.hid ix0
  clear ip0 ix0
  have HA1 := Lib.hid h1
  clear h1
  have IP1 := Lib.hid ip1
  have IX1 := Lib.hid ix1
  clear ip1 ix1
  have HA2 := Lib.hid h2
  clear h2
  have HK2 := Lib.hid k2
  clear k2
  obtain ⟨BB, hBB⟩ : ∃ r, tkT p0 x0 p1 x1 p2 x2 n2 y2 = r := ⟨_, rfl⟩
  have HBB := Lib.hid hBB
  clear hBB
  have HM0 := Lib.hid m0
  clear m0
  have HM1 := Lib.hid m1
  clear m1
  have HM2 := Lib.hid m2
  clear m2
  have HO2 := Lib.hid o2
  clear o2
  have SS0 : Hid (Sx w [] [] w) := Lib.hid (Sx.start w)
  have SS1 : Hid (Sx w [(w.heap.size, [.int .i64 p0, .slice a0 x0.length c0])] [] (w.alloc (.cells #[.int .i64 p0, .slice a0 x0.length c0] 24))) := Lib.hid (SS0.out.made [.int .i64 p0, .slice a0 x0.length c0] 24)
  clear SS0
  have SS2 : Hid (Sx w [(w.heap.size + 1, [.int .i64 p1, .slice a1 x1.length c1]), (w.heap.size, [.int .i64 p0, .slice a0 x0.length c0])] [] ((w.alloc (.cells #[.int .i64 p0, .slice a0 x0.length c0] 24)).alloc (.cells #[.int .i64 p1, .slice a1 x1.length c1] 24))) := Lib.hid (by have := SS1.out.made [.int .i64 p1, .slice a1 x1.length c1] 24; simpa using this)
  clear SS1
  have SS3 : Hid (Sx w [(w.heap.size + 1 + 1, [.int .i64 p2, .slice a2 x2.length c2, .int .i64 n2, .slice b2 y2.length d2]), (w.heap.size + 1, [.int .i64 p1, .slice a1 x1.length c1]), (w.heap.size, [.int .i64 p0, .slice a0 x0.length c0])] [] (((w.alloc (.cells #[.int .i64 p0, .slice a0 x0.length c0] 24)).alloc (.cells #[.int .i64 p1, .slice a1 x1.length c1] 24)).alloc (.cells #[.int .i64 p2, .slice a2 x2.length c2, .int .i64 n2, .slice b2 y2.length d2] 46))) := Lib.hid (by have := SS2.out.made [.int .i64 p2, .slice a2 x2.length c2, .int .i64 n2, .slice b2 y2.length d2] 46; simpa using this)
  clear SS2
  obtain ⟨w1, hw1⟩ : ∃ z, z = (((w.alloc (.cells #[.int .i64 p0, .slice a0 x0.length c0] 24)).alloc (.cells #[.int .i64 p1, .slice a1 x1.length c1] 24)).alloc (.cells #[.int .i64 p2, .slice a2 x2.length c2, .int .i64 n2, .slice b2 y2.length d2] 46)) := ⟨_, rfl⟩
  have S1 : Hid (Sx w [(w.heap.size + 1 + 1, [.int .i64 p2, .slice a2 x2.length c2, .int .i64 n2, .slice b2 y2.length d2]), (w.heap.size + 1, [.int .i64 p1, .slice a1 x1.length c1]), (w.heap.size, [.int .i64 p0, .slice a0 x0.length c0])] [] w1) := Lib.hid (by rw [hw1]; exact SS3.out)
  have Z1 : Hid (w1.heap.size = w.heap.size + 3) := Lib.hid (by rw [hw1]; simp)
  have Hw1 := Lib.hid hw1
  clear hw1 SS3
  go_enter Try.func9, Try.ntmps9
  go_wp2_with fail
  rw [← Hw1.out]
  refine (szgr_any p0 a0 x0.length c0 1048576 _ HM0.out (by omega) (by omega)).mono ?_
  rintro e w2 ⟨r0, rfl, hb, hres⟩
  have S2 := Lib.hid (S1.out.on hb)
  clear S1
  have Z2 : Hid (w1.heap.size ≤ w2.heap.size) := Lib.hid (hb.size)
  clear hb
  rcases hres with rfl | ⟨ra0, rb0, s0⟩
  · go_wp2
    go_ret
    exact ⟨rfl, S2.out.be⟩
  have rc0 : r0 ≤ 1048576 := by omega
  have qH1_0 := (S2.out.bx _ (.tail _ (.head _))).cell 0
  have qH1_1 := (S2.out.bx _ (.tail _ (.head _))).cell 1
  simp at qH1_0 qH1_1
  go_wp2_with fail
  refine (szgr_any p1 a1 x1.length c1 r0 _ HM1.out (by omega) (by omega)).mono ?_
  rintro e w3 ⟨r1, rfl, hb, hres⟩
  clear qH1_0 qH1_1
  have S3 := Lib.hid (S2.out.on hb)
  clear S2
  have Z3 : Hid (w2.heap.size ≤ w3.heap.size) := Lib.hid (hb.size)
  clear hb
  rcases hres with rfl | ⟨ra1, rb1, s1⟩
  · go_wp2
    go_ret
    exact ⟨rfl, S3.out.be⟩
  have rc1 : r1 ≤ 1048576 := by omega
  have qH2_0 := (S3.out.bx _ (.head _)).cell 0
  have qH2_1 := (S3.out.bx _ (.head _)).cell 1
  have qH2_2 := (S3.out.bx _ (.head _)).cell 2
  have qH2_3 := (S3.out.bx _ (.head _)).cell 3
  simp at qH2_0 qH2_1 qH2_2 qH2_3
  go_wp2_with fail
  refine (sztr_any p2 n2 a2 b2 x2.length c2 y2.length d2 r1 _ HM2.out HO2.out (by omega) (by omega)).mono ?_
  rintro e w4 ⟨r2, rfl, hb, hres⟩
  clear qH2_0 qH2_1 qH2_2 qH2_3
  have S4 := Lib.hid (S3.out.on hb)
  clear S3
  have Z4 : Hid (w3.heap.size ≤ w4.heap.size) := Lib.hid (hb.size)
  clear hb
  rcases hres with rfl | ⟨ra2, rb2, s2, t2⟩
  · go_wp2
    go_ret
    exact ⟨rfl, S4.out.be⟩
  have rc2 : r2 ≤ 1048576 := by omega
  go_wp2_with fail
  apply wp_region_H (Z := List Cp × Option (Nat × List Value)) (S := fun k => k == 1 || k == 3 || k == 5 || k == 6) (C := fun z w' => Hid (Zx w4 z.1 z.2 w')) [0, 2, 4] ([], none)
  · kernel_rfl
  · kernel_rfl
  · kernel_rfl
  · exact ⟨rfl, rfl, rfl, trivial⟩
  · rfl
  · decide
  · exact Lib.hid (Zx.start (Below.refl _ _).drew)
  · intro z
    dsimp only [pickL, nthO]
    go_big_quiet_want
    go_big_quiet_op
    refine ⟨.agg #[.int .i64 p0, .slice a0 x0.length c0], fun w' hw' => ?_, ?_⟩
    · have q9 := (S4.out.on hw'.out.be).bx _ (.tail _ (.tail _ (.head _)))
      have q0 := q9.cell 0
      have q1 := q9.cell 1
      simp at q0 q1
      simp [go_sem, q0, q1]
    go_big_quiet_on
    go_big_quiet_want
    go_big_quiet_op
    refine ⟨.agg #[.int .i64 p1, .slice a1 x1.length c1], fun w' hw' => ?_, ?_⟩
    · have q9 := (S4.out.on hw'.out.be).bx _ (.tail _ (.head _))
      have q0 := q9.cell 0
      have q1 := q9.cell 1
      simp at q0 q1
      simp [go_sem, q0, q1]
    go_big_quiet_on
    go_big_quiet_want
    go_big_quiet_op
    refine ⟨.agg #[.int .i64 p2, .slice a2 x2.length c2, .int .i64 n2, .slice b2 y2.length d2], fun w' hw' => ?_, ?_⟩
    · have q9 := (S4.out.on hw'.out.be).bx _ (.head _)
      have q0 := q9.cell 0
      have q1 := q9.cell 1
      have q2 := q9.cell 2
      have q3 := q9.cell 3
      simp at q0 q1 q2 q3
      simp [go_sem, q0, q1, q2, q3]
    go_big_quiet_on
    exact wpQuiet_nil rfl
  · skip
    refine wpAnyH_call (i := 1) (d := some 29) 16 #[.agg #[.int .i64 p0, .slice a0 x0.length c0]] rfl (by kernel_rfl) rfl rfl (by kernel_rfl) (fun _ => by kernel_rfl) fun waz0 hc => ?_
    refine (togr_any p0 a0 c0 x0 waz0 (HA0.out.on (S4.out.on hc.out.be).be) s0).mono ?_
    rintro e wbz0 ⟨vz0, rfl, oo, hb⟩
    refine ⟨_, rfl, ([.l waz0.heap.size wbz0.heap.size vz0 x0], none), Lib.hid (hc.out.add hb (Hl.mk1 oo) (Nat.le_refl _)), ?_⟩
    clear oo hb hc
    refine wpAnyH_call (i := 3) (d := some 31) 16 #[.agg #[.int .i64 p1, .slice a1 x1.length c1]] rfl (by kernel_rfl) rfl rfl (by kernel_rfl) (fun _ => by kernel_rfl) fun waz1 hc => ?_
    refine (togr_any p1 a1 c1 x1 waz1 (HA1.out.on (S4.out.on hc.out.be).be) s1).mono ?_
    rintro e wbz1 ⟨vz1, rfl, oo, hb⟩
    refine ⟨_, rfl, ([.l waz1.heap.size wbz1.heap.size vz1 x1, .l waz0.heap.size wbz0.heap.size vz0 x0], none), Lib.hid (hc.out.add hb (Hl.mk1 oo) (Nat.le_refl _)), ?_⟩
    clear oo hb hc
    refine wpAnyH_call (i := 5) (d := some 33) 40 #[.agg #[.int .i64 p2, .slice a2 x2.length c2, .int .i64 n2, .slice b2 y2.length d2]] rfl (by kernel_rfl) rfl rfl (by kernel_rfl) (fun _ => by kernel_rfl) fun waz2 hc => ?_
    refine (totr_any p2 n2 a2 b2 c2 d2 x2 y2 waz2 (HA2.out.on (S4.out.on hc.out.be).be) (HK2.out.on (S4.out.on hc.out.be).be) s2 t2).mono ?_
    rintro e wbz2 ⟨vz2, uz2, rfl, oo, hb⟩
    refine ⟨_, rfl, ([.p waz2.heap.size wbz2.heap.size vz2 uz2 x2 y2, .l waz1.heap.size wbz1.heap.size vz1 x1, .l waz0.heap.size wbz0.heap.size vz0 x0], none), Lib.hid (hc.out.add hb oo (Nat.le_refl _)), ?_⟩
    clear oo hb hc
    refine wpAnyH_call (i := 6) (d := some 34) 39 #[.agg #[.int .i64 p0, vz0], .agg #[.int .i64 p1, vz1], .agg #[.int .i64 p2, vz2, .int .i64 n2, uz2]] rfl (by kernel_rfl) rfl rfl (by kernel_rfl) (fun _ => by kernel_rfl) fun wcz hc => ?_
    refine (strn_any p0 p1 p2 n2 _ _ _ _ x0 x1 x2 y2 wcz (Ints.of_own (hc.out.ls _ (.tail _ (.tail _ (.head _)))).1 (small20 s0)) (Ints.of_own (hc.out.ls _ (.tail _ (.head _))).1 (small20 s1)) (Ints.of_own (hc.out.ls _ (.head _)).1 (small20 s2)) (Ints.of_own (hc.out.ls _ (.head _)).2.1 (small20 t2)) IP0.out IP1.out IX0.out IX1.out).mono ?_
    rintro e wdz ⟨rfl, hb⟩
    try rw [HBB.out]
    refine ⟨_, rfl, ([], none), Lib.hid ((hc.out.on hb).sub (fun _ m => (by cases m))), ?_⟩
    clear hb hc
    refine wpAnyH_take (i := 7) (d := some 8) (.bool BB) rfl (by kernel_rfl) rfl rfl (by kernel_rfl) (by kernel_rfl) (by kernel_rfl) (fun _ => by kernel_rfl) ?_
    refine ⟨by kernel_rfl, fun w5 hz => ?_⟩
    simp only [Act.put, List.setIfInBounds_toArray, List.set_cons_zero, List.set_cons_succ]
    have S5 := Lib.hid ((S4.out.on hz.out.be))
    clear S4
    have Z5 : Hid (w4.heap.size ≤ w5.heap.size) := Lib.hid (hz.out.be.size)
    clear hz
    have qH0_0 := (S5.out.bx _ (.tail _ (.tail _ (.head _)))).cell 0
    have qH0_1 := (S5.out.bx _ (.tail _ (.tail _ (.head _)))).cell 1
    simp at qH0_0 qH0_1
    go_wp2_with fail
    refine (togr_any p0 a0 c0 x0 _ (HA0.out.on S5.out.be) s0).mono ?_
    rintro e w6 ⟨v9, rfl, oo, hb⟩
    clear qH0_0 qH0_1
    have S6 := Lib.hid (S5.out.on hb)
    clear S5
    have hz := hb.size
    obtain ⟨Ax0, Cx0, ef⟩ := Own.form oo
    subst ef
    have S7 := Lib.hid (S6.out.add (Hl.mk1 oo))
    clear S6
    have Z6 : Hid (w5.heap.size ≤ w6.heap.size) := Lib.hid (hz)
    clear hb oo hz
    obtain ⟨w7, hw7⟩ : ∃ z, z = w6.alloc (.cells #[.int .i64 p0, .slice Ax0 x0.length Cx0] 27) := ⟨_, rfl⟩
    have S8 : Hid (Sx w [(w6.heap.size, [.int .i64 p0, .slice Ax0 x0.length Cx0]), (w.heap.size + 1 + 1, [.int .i64 p2, .slice a2 x2.length c2, .int .i64 n2, .slice b2 y2.length d2]), (w.heap.size + 1, [.int .i64 p1, .slice a1 x1.length c1]), (w.heap.size, [.int .i64 p0, .slice a0 x0.length c0])] [.l w5.heap.size w6.heap.size (.slice Ax0 x0.length Cx0) x0] w7) := Lib.hid (by rw [hw7]; exact S7.out.made [.int .i64 p0, .slice Ax0 x0.length Cx0] _)
    clear S7
    have Z7 : Hid (w7.heap.size = w6.heap.size + 1) := Lib.hid (by rw [hw7]; simp)
    have Hw7 := Lib.hid hw7
    clear hw7
    have qH1_0 := (S8.out.bx _ (.tail _ (.tail _ (.head _)))).cell 0
    have qH1_1 := (S8.out.bx _ (.tail _ (.tail _ (.head _)))).cell 1
    simp at qH1_0 qH1_1
    rw [Hw7.out] at qH1_0 qH1_1
    go_wp2_with fail
    rw [← Hw7.out]
    refine (togr_any p1 a1 c1 x1 _ (HA1.out.on S8.out.be) s1).mono ?_
    rintro e w8 ⟨v9, rfl, oo, hb⟩
    clear qH1_0 qH1_1
    have S9 := Lib.hid (S8.out.on hb)
    clear S8
    have hz := hb.size
    obtain ⟨Ax1, Cx1, ef⟩ := Own.form oo
    subst ef
    have S10 := Lib.hid (S9.out.add (Hl.mk1 oo))
    clear S9
    have Z8 : Hid (w7.heap.size ≤ w8.heap.size) := Lib.hid (hz)
    clear hb oo hz
    obtain ⟨w9, hw9⟩ : ∃ z, z = w8.alloc (.cells #[.int .i64 p1, .slice Ax1 x1.length Cx1] 27) := ⟨_, rfl⟩
    have S11 : Hid (Sx w [(w8.heap.size, [.int .i64 p1, .slice Ax1 x1.length Cx1]), (w6.heap.size, [.int .i64 p0, .slice Ax0 x0.length Cx0]), (w.heap.size + 1 + 1, [.int .i64 p2, .slice a2 x2.length c2, .int .i64 n2, .slice b2 y2.length d2]), (w.heap.size + 1, [.int .i64 p1, .slice a1 x1.length c1]), (w.heap.size, [.int .i64 p0, .slice a0 x0.length c0])] [.l w7.heap.size w8.heap.size (.slice Ax1 x1.length Cx1) x1, .l w5.heap.size w6.heap.size (.slice Ax0 x0.length Cx0) x0] w9) := Lib.hid (by rw [hw9]; exact S10.out.made [.int .i64 p1, .slice Ax1 x1.length Cx1] _)
    clear S10
    have Z9 : Hid (w9.heap.size = w8.heap.size + 1) := Lib.hid (by rw [hw9]; simp)
    have Hw9 := Lib.hid hw9
    clear hw9
    have qH2_0 := (S11.out.bx _ (.tail _ (.tail _ (.head _)))).cell 0
    have qH2_1 := (S11.out.bx _ (.tail _ (.tail _ (.head _)))).cell 1
    have qH2_2 := (S11.out.bx _ (.tail _ (.tail _ (.head _)))).cell 2
    have qH2_3 := (S11.out.bx _ (.tail _ (.tail _ (.head _)))).cell 3
    simp at qH2_0 qH2_1 qH2_2 qH2_3
    rw [Hw9.out] at qH2_0 qH2_1 qH2_2 qH2_3
    go_wp2_with fail
    rw [← Hw9.out]
    refine (totr_any p2 n2 a2 b2 c2 d2 x2 y2 _ (HA2.out.on S11.out.be) (HK2.out.on S11.out.be) s2 t2).mono ?_
    rintro e w10 ⟨v9, u9, rfl, oo, hb⟩
    clear qH2_0 qH2_1 qH2_2 qH2_3
    have S12 := Lib.hid (S11.out.on hb)
    clear S11
    have hz := hb.size
    obtain ⟨Ax2, Cx2, ef⟩ := Own.form oo.1
    obtain ⟨Bx2, Dx2, eg⟩ := Own.form oo.2.1
    subst ef eg
    have S13 := Lib.hid (S12.out.add oo)
    clear S12
    have Z10 : Hid (w9.heap.size ≤ w10.heap.size) := Lib.hid (hz)
    clear hb oo hz
    obtain ⟨w11, hw11⟩ : ∃ z, z = w10.alloc (.cells #[.int .i64 p2, .slice Ax2 x2.length Cx2, .int .i64 n2, .slice Bx2 y2.length Dx2] 50) := ⟨_, rfl⟩
    have S14 : Hid (Sx w [(w10.heap.size, [.int .i64 p2, .slice Ax2 x2.length Cx2, .int .i64 n2, .slice Bx2 y2.length Dx2]), (w8.heap.size, [.int .i64 p1, .slice Ax1 x1.length Cx1]), (w6.heap.size, [.int .i64 p0, .slice Ax0 x0.length Cx0]), (w.heap.size + 1 + 1, [.int .i64 p2, .slice a2 x2.length c2, .int .i64 n2, .slice b2 y2.length d2]), (w.heap.size + 1, [.int .i64 p1, .slice a1 x1.length c1]), (w.heap.size, [.int .i64 p0, .slice a0 x0.length c0])] [.p w9.heap.size w10.heap.size (.slice Ax2 x2.length Cx2) (.slice Bx2 y2.length Dx2) x2 y2, .l w7.heap.size w8.heap.size (.slice Ax1 x1.length Cx1) x1, .l w5.heap.size w6.heap.size (.slice Ax0 x0.length Cx0) x0] w11) := Lib.hid (by rw [hw11]; exact S13.out.made [.int .i64 p2, .slice Ax2 x2.length Cx2, .int .i64 n2, .slice Bx2 y2.length Dx2] _)
    clear S13
    have Z11 : Hid (w11.heap.size = w10.heap.size + 1) := Lib.hid (by rw [hw11]; simp)
    have Hw11 := Lib.hid hw11
    clear hw11
    have qx0_0 := (S14.out.bx _ (.tail _ (.tail _ (.head _)))).cell 0
    have qx0_1 := (S14.out.bx _ (.tail _ (.tail _ (.head _)))).cell 1
    have qx1_0 := (S14.out.bx _ (.tail _ (.head _))).cell 0
    have qx1_1 := (S14.out.bx _ (.tail _ (.head _))).cell 1
    have qx2_0 := (S14.out.bx _ (.head _)).cell 0
    have qx2_1 := (S14.out.bx _ (.head _)).cell 1
    have qx2_2 := (S14.out.bx _ (.head _)).cell 2
    have qx2_3 := (S14.out.bx _ (.head _)).cell 3
    simp at qx0_0 qx0_1 qx1_0 qx1_1 qx2_0 qx2_1 qx2_2 qx2_3
    rw [Hw11.out] at qx0_0 qx0_1 qx1_0 qx1_1 qx2_0 qx2_1 qx2_2 qx2_3
    go_wp2_with fail
    rw [← Hw11.out]
    refine (itrn_any p0 p1 p2 n2 _ _ _ _ x0 x1 x2 y2 _ (Ints.of_own (S14.out.ls _ (.tail _ (.tail _ (.head _)))).1 (small20 s0)) (Ints.of_own (S14.out.ls _ (.tail _ (.head _))).1 (small20 s1)) (Ints.of_own (S14.out.ls _ (.head _)).1 (small20 s2)) (Ints.of_own (S14.out.ls _ (.head _)).2.1 (small20 t2)) (S14.out.ls _ (.head _)).2.1.capped IX0.out IX1.out).mono ?_
    rintro e w12 ⟨rfl, hb⟩
    clear qx0_0 qx0_1 qx1_0 qx1_1 qx2_0 qx2_1 qx2_2 qx2_3
    try rw [HBB.out]
    have S15 := Lib.hid (S14.out.on hb)
    clear S14
    have hz := hb.size
    have Z12 : Hid (w11.heap.size ≤ w12.heap.size) := Lib.hid (hz)
    clear hb hz
    have hbb : (BB != BB) = false := by simp
    go_wp2_with fail
    apply wp_region_H (Z := List Cp × Option (Nat × List Value)) (S := fun k => k == 2 || k == 3 || k == 4) (C := fun z w' => Hid (Zx w12 z.1 z.2 w')) [0, 1] ([], none)
    · kernel_rfl
    · kernel_rfl
    · kernel_rfl
    · exact ⟨rfl, rfl, trivial⟩
    · rfl
    · decide
    · exact Lib.hid (Zx.start (Below.refl _ _).drew)
    · intro z
      dsimp only [pickL, nthO]
      go_big_quiet_want
      go_big_quiet_op
      refine ⟨.agg #[.int .i64 p0, .slice Ax0 x0.length Cx0], fun w' hw' => ?_, ?_⟩
      · have q9 := (S15.out.on hw'.out.be).bx _ (.tail _ (.tail _ (.head _)))
        have q0 := q9.cell 0
        have q1 := q9.cell 1
        simp at q0 q1
        simp [go_sem, q0, q1]
      go_big_quiet_on
      go_big_quiet_want
      go_big_quiet_op
      refine ⟨.agg #[.int .i64 p0, .slice a0 x0.length c0], fun w' hw' => ?_, ?_⟩
      · have q9 := (S15.out.on hw'.out.be).bx _ (.tail _ (.tail _ (.tail _ (.tail _ (.tail _ (.head _))))))
        have q0 := q9.cell 0
        have q1 := q9.cell 1
        simp at q0 q1
        simp [go_sem, q0, q1]
      go_big_quiet_on
      exact wpQuiet_nil rfl
    · skip
      refine wpAnyH_call (i := 2) (d := some 50) 16 #[.agg #[.int .i64 p0, .slice a0 x0.length c0]] rfl (by kernel_rfl) rfl rfl (by kernel_rfl) (fun _ => by kernel_rfl) fun wae0 hc => ?_
      refine (togr_any p0 a0 c0 x0 wae0 (HA0.out.on (S15.out.on hc.out.be).be) s0).mono ?_
      rintro e wbe0 ⟨ve0, rfl, oo, hb⟩
      refine ⟨_, rfl, ([.l wae0.heap.size wbe0.heap.size ve0 x0], none), Lib.hid (hc.out.add hb (Hl.mk1 oo) (Nat.le_refl _)), ?_⟩
      clear oo hb hc
      refine wpAnyH_call (i := 3) (d := some 51) 18 #[.agg #[.int .i64 p0, .slice Ax0 x0.length Cx0], .agg #[.int .i64 p0, ve0]] rfl (by kernel_rfl) rfl rfl (by kernel_rfl) (fun _ => by kernel_rfl) fun wc hc => ?_
      refine (eqgr_any p0 _ _ x0 wc (Ints.of_own ((Lib.hid (S15.out.on hc.out.be)).out.ls _ (.tail _ (.tail _ (.head _)))).1 (small20 s0)) (Ints.of_own (hc.out.ls _ (.head _)).1 (small20 s0))).mono ?_
      rintro e wd ⟨rfl, hb⟩
      refine ⟨_, rfl, ([], none), Lib.hid ((hc.out.on hb).sub (fun _ m => (by cases m))), ?_⟩
      clear hb hc
      refine wpAnyH_special (i := 4) (d := some 52) rfl (by kernel_rfl) rfl rfl (by kernel_rfl) fun wy hcy => ⟨.bool false, wy, ([], none), .inl (by kernel_rfl), hcy, ?_⟩
      refine ⟨by kernel_rfl, fun w13 hz => ?_⟩
      simp only [Act.put, List.setIfInBounds_toArray, List.set_cons_zero, List.set_cons_succ]
      have S16 := Lib.hid (S15.out.on hz.out.be)
      clear S15
      have Z13 : Hid (w12.heap.size ≤ w13.heap.size) := Lib.hid (hz.out.be.size)
      clear hz hcy
      go_wp2_with fail
      apply wp_region_H (Z := List Cp × Option (Nat × List Value)) (S := fun k => k == 2 || k == 3 || k == 4) (C := fun z w' => Hid (Zx w13 z.1 z.2 w')) [0, 1] ([], none)
      · kernel_rfl
      · kernel_rfl
      · kernel_rfl
      · exact ⟨rfl, rfl, trivial⟩
      · rfl
      · decide
      · exact Lib.hid (Zx.start (Below.refl _ _).drew)
      · intro z
        dsimp only [pickL, nthO]
        go_big_quiet_want
        go_big_quiet_op
        refine ⟨.agg #[.int .i64 p1, .slice Ax1 x1.length Cx1], fun w' hw' => ?_, ?_⟩
        · have q9 := (S16.out.on hw'.out.be).bx _ (.tail _ (.head _))
          have q0 := q9.cell 0
          have q1 := q9.cell 1
          simp at q0 q1
          simp [go_sem, q0, q1]
        go_big_quiet_on
        go_big_quiet_want
        go_big_quiet_op
        refine ⟨.agg #[.int .i64 p1, .slice a1 x1.length c1], fun w' hw' => ?_, ?_⟩
        · have q9 := (S16.out.on hw'.out.be).bx _ (.tail _ (.tail _ (.tail _ (.tail _ (.head _)))))
          have q0 := q9.cell 0
          have q1 := q9.cell 1
          simp at q0 q1
          simp [go_sem, q0, q1]
        go_big_quiet_on
        exact wpQuiet_nil rfl
      · skip
        refine wpAnyH_call (i := 2) (d := some 55) 16 #[.agg #[.int .i64 p1, .slice a1 x1.length c1]] rfl (by kernel_rfl) rfl rfl (by kernel_rfl) (fun _ => by kernel_rfl) fun wae0 hc => ?_
        refine (togr_any p1 a1 c1 x1 wae0 (HA1.out.on (S16.out.on hc.out.be).be) s1).mono ?_
        rintro e wbe0 ⟨ve0, rfl, oo, hb⟩
        refine ⟨_, rfl, ([.l wae0.heap.size wbe0.heap.size ve0 x1], none), Lib.hid (hc.out.add hb (Hl.mk1 oo) (Nat.le_refl _)), ?_⟩
        clear oo hb hc
        refine wpAnyH_call (i := 3) (d := some 56) 18 #[.agg #[.int .i64 p1, .slice Ax1 x1.length Cx1], .agg #[.int .i64 p1, ve0]] rfl (by kernel_rfl) rfl rfl (by kernel_rfl) (fun _ => by kernel_rfl) fun wc hc => ?_
        refine (eqgr_any p1 _ _ x1 wc (Ints.of_own ((Lib.hid (S16.out.on hc.out.be)).out.ls _ (.tail _ (.head _))).1 (small20 s1)) (Ints.of_own (hc.out.ls _ (.head _)).1 (small20 s1))).mono ?_
        rintro e wd ⟨rfl, hb⟩
        refine ⟨_, rfl, ([], none), Lib.hid ((hc.out.on hb).sub (fun _ m => (by cases m))), ?_⟩
        clear hb hc
        refine wpAnyH_special (i := 4) (d := some 57) rfl (by kernel_rfl) rfl rfl (by kernel_rfl) fun wy hcy => ⟨.bool false, wy, ([], none), .inl (by kernel_rfl), hcy, ?_⟩
        refine ⟨by kernel_rfl, fun w14 hz => ?_⟩
        simp only [Act.put, List.setIfInBounds_toArray, List.set_cons_zero, List.set_cons_succ]
        have S17 := Lib.hid (S16.out.on hz.out.be)
        clear S16
        have Z14 : Hid (w13.heap.size ≤ w14.heap.size) := Lib.hid (hz.out.be.size)
        clear hz hcy
        go_wp2_with fail
        apply wp_region_H (Z := List Cp × Option (Nat × List Value)) (S := fun k => k == 2 || k == 3 || k == 4) (C := fun z w' => Hid (Zx w14 z.1 z.2 w')) [0, 1] ([], none)
        · kernel_rfl
        · kernel_rfl
        · kernel_rfl
        · exact ⟨rfl, rfl, trivial⟩
        · rfl
        · decide
        · exact Lib.hid (Zx.start (Below.refl _ _).drew)
        · intro z
          dsimp only [pickL, nthO]
          go_big_quiet_want
          go_big_quiet_op
          refine ⟨.agg #[.int .i64 p2, .slice Ax2 x2.length Cx2, .int .i64 n2, .slice Bx2 y2.length Dx2], fun w' hw' => ?_, ?_⟩
          · have q9 := (S17.out.on hw'.out.be).bx _ (.head _)
            have q0 := q9.cell 0
            have q1 := q9.cell 1
            have q2 := q9.cell 2
            have q3 := q9.cell 3
            simp at q0 q1 q2 q3
            simp [go_sem, q0, q1, q2, q3]
          go_big_quiet_on
          go_big_quiet_want
          go_big_quiet_op
          refine ⟨.agg #[.int .i64 p2, .slice a2 x2.length c2, .int .i64 n2, .slice b2 y2.length d2], fun w' hw' => ?_, ?_⟩
          · have q9 := (S17.out.on hw'.out.be).bx _ (.tail _ (.tail _ (.tail _ (.head _))))
            have q0 := q9.cell 0
            have q1 := q9.cell 1
            have q2 := q9.cell 2
            have q3 := q9.cell 3
            simp at q0 q1 q2 q3
            simp [go_sem, q0, q1, q2, q3]
          go_big_quiet_on
          exact wpQuiet_nil rfl
        · skip
          refine wpAnyH_call (i := 2) (d := some 60) 40 #[.agg #[.int .i64 p2, .slice a2 x2.length c2, .int .i64 n2, .slice b2 y2.length d2]] rfl (by kernel_rfl) rfl rfl (by kernel_rfl) (fun _ => by kernel_rfl) fun wae0 hc => ?_
          refine (totr_any p2 n2 a2 b2 c2 d2 x2 y2 wae0 (HA2.out.on (S17.out.on hc.out.be).be) (HK2.out.on (S17.out.on hc.out.be).be) s2 t2).mono ?_
          rintro e wbe0 ⟨ve0, ue0, rfl, oo, hb⟩
          refine ⟨_, rfl, ([.p wae0.heap.size wbe0.heap.size ve0 ue0 x2 y2], none), Lib.hid (hc.out.add hb oo (Nat.le_refl _)), ?_⟩
          clear oo hb hc
          refine wpAnyH_call (i := 3) (d := some 61) 42 #[.agg #[.int .i64 p2, .slice Ax2 x2.length Cx2, .int .i64 n2, .slice Bx2 y2.length Dx2], .agg #[.int .i64 p2, ve0, .int .i64 n2, ue0]] rfl (by kernel_rfl) rfl rfl (by kernel_rfl) (fun _ => by kernel_rfl) fun wc hc => ?_
          refine (eqtr_any p2 n2 _ _ _ _ x2 y2 wc (Ints.of_own ((Lib.hid (S17.out.on hc.out.be)).out.ls _ (.head _)).1 (small20 s2)) (Ints.of_own (hc.out.ls _ (.head _)).1 (small20 s2)) (Ints.of_own ((Lib.hid (S17.out.on hc.out.be)).out.ls _ (.head _)).2.1 (small20 t2)) (Ints.of_own (hc.out.ls _ (.head _)).2.1 (small20 t2))).mono ?_
          rintro e wd ⟨rfl, hb⟩
          refine ⟨_, rfl, ([], none), Lib.hid ((hc.out.on hb).sub (fun _ m => (by cases m))), ?_⟩
          clear hb hc
          refine wpAnyH_special (i := 4) (d := some 62) rfl (by kernel_rfl) rfl rfl (by kernel_rfl) fun wy hcy => ⟨.bool false, wy, ([], none), .inl (by kernel_rfl), hcy, ?_⟩
          refine ⟨by kernel_rfl, fun w15 hz => ?_⟩
          simp only [Act.put, List.setIfInBounds_toArray, List.set_cons_zero, List.set_cons_succ]
          have S18 := Lib.hid (S17.out.on hz.out.be)
          clear S17
          have Z15 : Hid (w14.heap.size ≤ w15.heap.size) := Lib.hid (hz.out.be.size)
          clear hz hcy
          go_wp2
          go_ret
          exact ⟨rfl, S18.out.be⟩
end Go.Proofs.Ytipndddmjgjgpaa
