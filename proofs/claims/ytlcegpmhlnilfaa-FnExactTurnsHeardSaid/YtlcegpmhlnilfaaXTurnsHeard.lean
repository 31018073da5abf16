/- The exact law of TurnsHeard, walked: spec's answer, impl's answer, and that both are the same; no argument is written to; the answer owns its memory. -/
import Derived.Test.YtlcegpmhlnilfaaThI
import Derived.Test.YtlcegpmhlnilfaaBHr
import Derived.Test.YtlcegpmhlnilfaaGrC
import Derived.Test.YtlcegpmhlnilfaaBSol
import Derived.Deep.Cut
namespace Go.Proofs.Ytlcegpmhlnilfaa
open Go.RowKit

set_option maxRecDepth 100000 in
set_option maxHeartbeats 12800000 in
theorem xTurnsHeard_walk (p0 : Int) (a0 : Option Addr) (c0 : Nat) (x0 : List Int) (p1 : Int) (a1 : Option Addr) (c1 : Nat) (x1 : List Int) (a2 : Option Addr) (c2 : Nat) (x2 : List Int) (a3 : Option Addr) (c3 : Nat) (x3 : List Int) (w : World) (h0 : ArgI w a0 x0) (m0 : x0.length ≤ maxLen) (ip0 : intIn p0) (ix0 : ∀ j, j < x0.length → intIn (nth x0 j)) (h1 : ArgI w a1 x1) (m1 : x1.length ≤ maxLen) (ip1 : intIn p1) (ix1 : ∀ j, j < x1.length → intIn (nth x1 j)) (h2 : ArgI w a2 x2) (m2 : x2.length ≤ maxLen) (h3 : ArgI w a3 x3) (m3 : x3.length ≤ maxLen) :
    Calls Try.prog 5 #[.agg #[.int .i64 p0, .slice a0 x0.length c0], .agg #[.int .i64 p1, .slice a1 x1.length c1], .slice a2 x2.length c2, .slice a3 x3.length c3] w fun e w' => e = .returned (.bool true) ∧ Below w.heap.size w w' := by
  have HA0 := Lib.hid h0
  clear h0
  have IP0 := Lib.hid ip0
  have IX0 := Lib.hid ix0
  clear ip0 ix0
  have HA1 := Lib.hid h1
  clear h1
  have IP1 := Lib.hid ip1
  have IX1 := Lib.hid ix1
  clear ip1 ix1
  have HA2 := Lib.hid h2
  clear h2
  have HA3 := Lib.hid h3
  clear h3
  obtain ⟨VV, hVV⟩ : ∃ r, hrV p0 x0 p1 x1 x2 x3 = r := ⟨_, rfl⟩
  have HFU : Hid (∀ d : List Tu, d.map valU = VV → FewU d) := Lib.hid (by rw [← hVV]; exact hrV_few _ _ _ _ _ _)
  have HVV := Lib.hid hVV
  clear hVV
  have HM0 := Lib.hid m0
  clear m0
  have HM1 := Lib.hid m1
  clear m1
  unfold maxLen at m2 m3
  have SS0 : Hid (Sx w [] [] w) := Lib.hid (Sx.start w)
  have SS1 : Hid (Sx w [(w.heap.size, [.int .i64 p0, .slice a0 x0.length c0])] [] (w.alloc (.cells #[.int .i64 p0, .slice a0 x0.length c0] 27))) := Lib.hid (SS0.out.made [.int .i64 p0, .slice a0 x0.length c0] 27)
  clear SS0
  have SS2 : Hid (Sx w [(w.heap.size + 1, [.int .i64 p1, .slice a1 x1.length c1]), (w.heap.size, [.int .i64 p0, .slice a0 x0.length c0])] [] ((w.alloc (.cells #[.int .i64 p0, .slice a0 x0.length c0] 27)).alloc (.cells #[.int .i64 p1, .slice a1 x1.length c1] 27))) := Lib.hid (by have := SS1.out.made [.int .i64 p1, .slice a1 x1.length c1] 27; simpa using this)
  clear SS1
  by_cases s2 : x2.length ≤ 1048576
  case neg =>
    go_enter Try.func5, Try.ntmps5
    go_wp2
    go_ret
    exact ⟨rfl, SS2.out.be⟩
  by_cases s3 : x3.length ≤ 1048576
  case neg =>
    go_enter Try.func5, Try.ntmps5
    go_wp2
    go_ret
    exact ⟨rfl, SS2.out.be⟩
  obtain ⟨w1, hw1⟩ : ∃ z, z = ((w.alloc (.cells #[.int .i64 p0, .slice a0 x0.length c0] 27)).alloc (.cells #[.int .i64 p1, .slice a1 x1.length c1] 27)) := ⟨_, rfl⟩
  have S1 : Hid (Sx w [(w.heap.size + 1, [.int .i64 p1, .slice a1 x1.length c1]), (w.heap.size, [.int .i64 p0, .slice a0 x0.length c0])] [] w1) := Lib.hid (by rw [hw1]; exact SS2.out)
  have Z1 : Hid (w1.heap.size = w.heap.size + 2) := Lib.hid (by rw [hw1]; simp)
  have Hw1 := Lib.hid hw1
  clear hw1 SS2
  go_enter Try.func5, Try.ntmps5
  go_wp2_with fail
  rw [← Hw1.out]
  refine (szgr_any p0 a0 x0.length c0 1048576 _ HM0.out (by omega) (by omega)).mono ?_
  rintro e w2 ⟨r0, rfl, hb, hres⟩
  have S2 := Lib.hid (S1.out.on hb)
  clear S1
  have Z2 : Hid (w1.heap.size ≤ w2.heap.size) := Lib.hid (hb.size)
  clear hb
  rcases hres with rfl | ⟨ra0, rb0, s0⟩
  · go_wp2
    go_ret
    exact ⟨rfl, S2.out.be⟩
  have rc0 : r0 ≤ 1048576 := by omega
  have qH1_0 := (S2.out.bx _ (.head _)).cell 0
  have qH1_1 := (S2.out.bx _ (.head _)).cell 1
  simp at qH1_0 qH1_1
  go_wp2_with fail
  refine (szgr_any p1 a1 x1.length c1 r0 _ HM1.out (by omega) (by omega)).mono ?_
  rintro e w3 ⟨r1, rfl, hb, hres⟩
  clear qH1_0 qH1_1
  have S3 := Lib.hid (S2.out.on hb)
  clear S2
  have Z3 : Hid (w2.heap.size ≤ w3.heap.size) := Lib.hid (hb.size)
  clear hb
  rcases hres with rfl | ⟨ra1, rb1, s1⟩
  · go_wp2
    go_ret
    exact ⟨rfl, S3.out.be⟩
  have rc1 : r1 ≤ 1048576 := by omega
  go_wp2_with fail
  apply wp_region_H (Z := List Cp × Option (Nat × List Value)) (S := fun k => k == 1 || k == 3 || k == 5 || k == 7 || k == 8) (C := fun z w' => Hid (Zx w3 z.1 z.2 w')) [0, 2, 4, 6] ([], none)
  · kernel_rfl
  · kernel_rfl
  · kernel_rfl
  · exact ⟨rfl, rfl, rfl, rfl, trivial⟩
  · rfl
  · decide
  · exact Lib.hid (Zx.start (Below.refl _ _).drew)
  · intro z
    dsimp only [pickL, nthO]
    go_big_quiet_want
    go_big_quiet_op
    refine ⟨.agg #[.int .i64 p0, .slice a0 x0.length c0], fun w' hw' => ?_, ?_⟩
    · have q9 := (S3.out.on hw'.out.be).bx _ (.tail _ (.head _))
      have q0 := q9.cell 0
      have q1 := q9.cell 1
      simp at q0 q1
      simp [go_sem, q0, q1]
    go_big_quiet_on
    go_big_quiet_want
    go_big_quiet_op
    refine ⟨.agg #[.int .i64 p1, .slice a1 x1.length c1], fun w' hw' => ?_, ?_⟩
    · have q9 := (S3.out.on hw'.out.be).bx _ (.head _)
      have q0 := q9.cell 0
      have q1 := q9.cell 1
      simp at q0 q1
      simp [go_sem, q0, q1]
    go_big_quiet_on
    go_big_quiet_want; go_big_quiet_op; first | go_big_quiet_on | (refine ⟨_, fun _ _ => rfl, ?_⟩; go_big_quiet_on)
    go_big_quiet_want; go_big_quiet_op; first | go_big_quiet_on | (refine ⟨_, fun _ _ => rfl, ?_⟩; go_big_quiet_on)
    exact wpQuiet_nil rfl
  · skip
    refine wpAnyH_call (i := 1) (d := some 37) 14 #[.agg #[.int .i64 p0, .slice a0 x0.length c0]] rfl (by kernel_rfl) rfl rfl (by kernel_rfl) (fun _ => by kernel_rfl) fun waz0 hc => ?_
    refine (togr_any p0 a0 c0 x0 waz0 (HA0.out.on (S3.out.on hc.out.be).be) s0).mono ?_
    rintro e wbz0 ⟨vz0, rfl, oo, hb⟩
    refine ⟨_, rfl, ([.l waz0.heap.size wbz0.heap.size vz0 x0], none), Lib.hid (hc.out.add hb (Hl.mk1 oo) (Nat.le_refl _)), ?_⟩
    clear oo hb hc
    refine wpAnyH_call (i := 3) (d := some 39) 14 #[.agg #[.int .i64 p1, .slice a1 x1.length c1]] rfl (by kernel_rfl) rfl rfl (by kernel_rfl) (fun _ => by kernel_rfl) fun waz1 hc => ?_
    refine (togr_any p1 a1 c1 x1 waz1 (HA1.out.on (S3.out.on hc.out.be).be) s1).mono ?_
    rintro e wbz1 ⟨vz1, rfl, oo, hb⟩
    refine ⟨_, rfl, ([.l waz1.heap.size wbz1.heap.size vz1 x1, .l waz0.heap.size wbz0.heap.size vz0 x0], none), Lib.hid (hc.out.add hb (Hl.mk1 oo) (Nat.le_refl _)), ?_⟩
    clear oo hb hc
    refine wpAnyH_call (i := 5) (d := some 41) 9 #[.slice a2 x2.length c2] rfl (by kernel_rfl) rfl rfl (by kernel_rfl) (fun _ => by kernel_rfl) fun waz2 hc => ?_
    refine (toI_any a2 c2 x2 waz2 (HA2.out.on (S3.out.on hc.out.be).be) s2).mono ?_
    rintro e wbz2 ⟨vz2, rfl, oo, hb⟩
    refine ⟨_, rfl, ([.l waz2.heap.size wbz2.heap.size vz2 x2, .l waz1.heap.size wbz1.heap.size vz1 x1, .l waz0.heap.size wbz0.heap.size vz0 x0], none), Lib.hid (hc.out.add hb (Hl.mk1 oo) (Nat.le_refl _)), ?_⟩
    clear oo hb hc
    refine wpAnyH_call (i := 7) (d := some 43) 9 #[.slice a3 x3.length c3] rfl (by kernel_rfl) rfl rfl (by kernel_rfl) (fun _ => by kernel_rfl) fun waz3 hc => ?_
    refine (toI_any a3 c3 x3 waz3 (HA3.out.on (S3.out.on hc.out.be).be) s3).mono ?_
    rintro e wbz3 ⟨vz3, rfl, oo, hb⟩
    refine ⟨_, rfl, ([.l waz3.heap.size wbz3.heap.size vz3 x3, .l waz2.heap.size wbz2.heap.size vz2 x2, .l waz1.heap.size wbz1.heap.size vz1 x1, .l waz0.heap.size wbz0.heap.size vz0 x0], none), Lib.hid (hc.out.add hb (Hl.mk1 oo) (Nat.le_refl _)), ?_⟩
    clear oo hb hc
    refine wpAnyH_call (i := 8) (d := some 44) 17 #[.agg #[.int .i64 p0, vz0], .agg #[.int .i64 p1, vz1], vz2, vz3] rfl (by kernel_rfl) rfl rfl (by kernel_rfl) (fun _ => by kernel_rfl) fun wcz hc => ?_
    refine (shr_any p0 p1 _ _ _ _ x0 x1 x2 x3 wcz (Ints.of_own (hc.out.ls _ (.tail _ (.tail _ (.tail _ (.head _))))).1 (small20 s0)) (Ints.of_own (hc.out.ls _ (.tail _ (.tail _ (.head _)))).1 (small20 s1)) (Ints.of_own (hc.out.ls _ (.tail _ (.head _))).1 (small20 s2)) (Ints.of_own (hc.out.ls _ (.head _)).1 (small20 s3)) IP0.out IP1.out IX0.out IX1.out).mono ?_
    rintro e wdz ⟨vz, uz1, rfl, oo, em1, hb⟩
    rw [HVV.out] at em1
    have HE1 := Lib.hid em1
    clear em1
    refine ⟨_, rfl, ([cpU wcz.heap.size wdz.heap.size vz uz1], none), Lib.hid (((hc.out.sub (L' := []) (fun _ m => (by cases m))).add hb (Hl.mkU oo) (Nat.le_refl _))), ?_⟩
    clear hb oo hc
    refine wpAnyH_take (i := 9) (d := some 10) (vz) rfl (by kernel_rfl) rfl rfl (by kernel_rfl) (by kernel_rfl) (by kernel_rfl) (fun _ => by kernel_rfl) ?_
    refine ⟨by kernel_rfl, fun w4 hz => ?_⟩
    simp only [Act.put, List.setIfInBounds_toArray, List.set_cons_zero, List.set_cons_succ]
    have S4 := Lib.hid (hz.out.fin0 S3.out)
    clear S3
    obtain ⟨⟨Azr, Czr, ef⟩, _⟩ := OwnU.form (S4.out.ls _ (.head _)).1
    subst ef
    have Z4 : Hid (wdz.heap.size ≤ w4.heap.size) := Lib.hid ((S4.out.ls _ (.head _)).size)
    have Z5 : Hid (w3.heap.size ≤ w4.heap.size) := Lib.hid (hz.out.be.size)
    clear hz
    have qH0_0 := (S4.out.bx _ (.tail _ (.head _))).cell 0
    have qH0_1 := (S4.out.bx _ (.tail _ (.head _))).cell 1
    simp at qH0_0 qH0_1
    go_wp2_with fail
    refine (togr_any p0 a0 c0 x0 _ (HA0.out.on S4.out.be) s0).mono ?_
    rintro e w5 ⟨v9, rfl, oo, hb⟩
    clear qH0_0 qH0_1
    have S5 := Lib.hid (S4.out.on hb)
    clear S4
    have hz := hb.size
    obtain ⟨Ax0, Cx0, ef⟩ := Own.form oo
    subst ef
    have S6 := Lib.hid (S5.out.add (Hl.mk1 oo))
    clear S5
    have Z6 : Hid (w4.heap.size ≤ w5.heap.size) := Lib.hid (hz)
    clear hb oo hz
    obtain ⟨w6, hw6⟩ : ∃ z, z = w5.alloc (.cells #[.int .i64 p0, .slice Ax0 x0.length Cx0] 30) := ⟨_, rfl⟩
    have S7 : Hid (Sx w [(w5.heap.size, [.int .i64 p0, .slice Ax0 x0.length Cx0]), (w.heap.size + 1, [.int .i64 p1, .slice a1 x1.length c1]), (w.heap.size, [.int .i64 p0, .slice a0 x0.length c0])] [.l w4.heap.size w5.heap.size (.slice Ax0 x0.length Cx0) x0, (cpU wcz.heap.size wdz.heap.size (.slice Azr uz1.length Czr) uz1)] w6) := Lib.hid (by rw [hw6]; exact S6.out.made [.int .i64 p0, .slice Ax0 x0.length Cx0] _)
    clear S6
    have Z7 : Hid (w6.heap.size = w5.heap.size + 1) := Lib.hid (by rw [hw6]; simp)
    have Hw6 := Lib.hid hw6
    clear hw6
    have qH1_0 := (S7.out.bx _ (.tail _ (.head _))).cell 0
    have qH1_1 := (S7.out.bx _ (.tail _ (.head _))).cell 1
    simp at qH1_0 qH1_1
    rw [Hw6.out] at qH1_0 qH1_1
    go_wp2_with fail
    rw [← Hw6.out]
    refine (togr_any p1 a1 c1 x1 _ (HA1.out.on S7.out.be) s1).mono ?_
    rintro e w7 ⟨v9, rfl, oo, hb⟩
    clear qH1_0 qH1_1
    have S8 := Lib.hid (S7.out.on hb)
    clear S7
    have hz := hb.size
    obtain ⟨Ax1, Cx1, ef⟩ := Own.form oo
    subst ef
    have S9 := Lib.hid (S8.out.add (Hl.mk1 oo))
    clear S8
    have Z8 : Hid (w6.heap.size ≤ w7.heap.size) := Lib.hid (hz)
    clear hb oo hz
    obtain ⟨w8, hw8⟩ : ∃ z, z = w7.alloc (.cells #[.int .i64 p1, .slice Ax1 x1.length Cx1] 30) := ⟨_, rfl⟩
    have S10 : Hid (Sx w [(w7.heap.size, [.int .i64 p1, .slice Ax1 x1.length Cx1]), (w5.heap.size, [.int .i64 p0, .slice Ax0 x0.length Cx0]), (w.heap.size + 1, [.int .i64 p1, .slice a1 x1.length c1]), (w.heap.size, [.int .i64 p0, .slice a0 x0.length c0])] [.l w6.heap.size w7.heap.size (.slice Ax1 x1.length Cx1) x1, .l w4.heap.size w5.heap.size (.slice Ax0 x0.length Cx0) x0, (cpU wcz.heap.size wdz.heap.size (.slice Azr uz1.length Czr) uz1)] w8) := Lib.hid (by rw [hw8]; exact S9.out.made [.int .i64 p1, .slice Ax1 x1.length Cx1] _)
    clear S9
    have Z9 : Hid (w8.heap.size = w7.heap.size + 1) := Lib.hid (by rw [hw8]; simp)
    have Hw8 := Lib.hid hw8
    clear hw8
    go_wp2_with fail
    rw [← Hw8.out]
    refine (toI_any a2 c2 x2 _ (HA2.out.on S10.out.be) s2).mono ?_
    rintro e w9 ⟨v9, rfl, oo, hb⟩
    have S11 := Lib.hid (S10.out.on hb)
    clear S10
    have hz := hb.size
    obtain ⟨Ax2, Cx2, ef⟩ := Own.form oo
    subst ef
    have S12 := Lib.hid (S11.out.add (Hl.mk1 oo))
    clear S11
    have Z10 : Hid (w8.heap.size ≤ w9.heap.size) := Lib.hid (hz)
    clear hb oo hz
    go_wp2_with fail
    refine (toI_any a3 c3 x3 _ (HA3.out.on S12.out.be) s3).mono ?_
    rintro e w10 ⟨v9, rfl, oo, hb⟩
    have S13 := Lib.hid (S12.out.on hb)
    clear S12
    have hz := hb.size
    obtain ⟨Ax3, Cx3, ef⟩ := Own.form oo
    subst ef
    have S14 := Lib.hid (S13.out.add (Hl.mk1 oo))
    clear S13
    have Z11 : Hid (w9.heap.size ≤ w10.heap.size) := Lib.hid (hz)
    clear hb oo hz
    have qx0_0 := (S14.out.bx _ (.tail _ (.head _))).cell 0
    have qx0_1 := (S14.out.bx _ (.tail _ (.head _))).cell 1
    have qx1_0 := (S14.out.bx _ (.head _)).cell 0
    have qx1_1 := (S14.out.bx _ (.head _)).cell 1
    simp at qx0_0 qx0_1 qx1_0 qx1_1
    go_wp2_with fail
    refine (ihr_any p0 p1 _ _ _ _ x0 x1 x2 x3 _ (Ints.of_own (S14.out.ls _ (.tail _ (.tail _ (.tail _ (.head _))))).1 (small20 s0)) (Ints.of_own (S14.out.ls _ (.tail _ (.tail _ (.head _)))).1 (small20 s1)) (Ints.of_own (S14.out.ls _ (.tail _ (.head _))).1 (small20 s2)) (Ints.of_own (S14.out.ls _ (.head _)).1 (small20 s3)) (S14.out.ls _ (.tail _ (.head _))).1.capped IX0.out IX1.out).mono ?_
    rintro e w11 ⟨v9, uz2, rfl, oo, em2, hb⟩
    clear qx0_0 qx0_1 qx1_0 qx1_1
    rw [HVV.out] at em2
    have HE2 := Lib.hid em2
    clear em2
    have S15 := Lib.hid (S14.out.on hb)
    clear S14
    have hz := hb.size
    obtain ⟨⟨Agr, Cgr, ef⟩, _⟩ := OwnU.form oo
    subst ef
    have S16 := Lib.hid (S15.out.add (Hl.mkU oo))
    clear S15
    clear oo
    have Z12 : Hid (w10.heap.size ≤ w11.heap.size) := Lib.hid (hz)
    clear hb hz
    go_wp2_with fail
    refine (equ_any _ _ _ _ _ _ uz2 uz1 _ (S16.out.ls _ (.head _)).1 (S16.out.ls _ (.tail _ (.tail _ (.tail _ (.tail _ (.tail _ (.head _))))))).1 (HFU.out _ HE2.out) (HFU.out _ HE1.out) (HE2.out.trans HE1.out.symm)).mono ?_
    rintro e w12 ⟨rfl, hb⟩
    have S17 := Lib.hid (S16.out.on hb)
    clear S16
    have Z13 : Hid (w11.heap.size ≤ w12.heap.size) := Lib.hid (hb.size)
    clear hb
    go_wp2_with fail
    apply wp_region_H (Z := List Cp × Option (Nat × List Value)) (S := fun k => k == 2 || k == 3 || k == 4) (C := fun z w' => Hid (Zx w12 z.1 z.2 w')) [0, 1] ([], none)
    · kernel_rfl
    · kernel_rfl
    · kernel_rfl
    · exact ⟨rfl, rfl, trivial⟩
    · rfl
    · decide
    · exact Lib.hid (Zx.start (Below.refl _ _).drew)
    · intro z
      dsimp only [pickL, nthO]
      go_big_quiet_want
      go_big_quiet_op
      refine ⟨.agg #[.int .i64 p0, .slice Ax0 x0.length Cx0], fun w' hw' => ?_, ?_⟩
      · have q9 := (S17.out.on hw'.out.be).bx _ (.tail _ (.head _))
        have q0 := q9.cell 0
        have q1 := q9.cell 1
        simp at q0 q1
        simp [go_sem, q0, q1]
      go_big_quiet_on
      go_big_quiet_want
      go_big_quiet_op
      refine ⟨.agg #[.int .i64 p0, .slice a0 x0.length c0], fun w' hw' => ?_, ?_⟩
      · have q9 := (S17.out.on hw'.out.be).bx _ (.tail _ (.tail _ (.tail _ (.head _))))
        have q0 := q9.cell 0
        have q1 := q9.cell 1
        simp at q0 q1
        simp [go_sem, q0, q1]
      go_big_quiet_on
      exact wpQuiet_nil rfl
    · skip
      refine wpAnyH_call (i := 2) (d := some 64) 14 #[.agg #[.int .i64 p0, .slice a0 x0.length c0]] rfl (by kernel_rfl) rfl rfl (by kernel_rfl) (fun _ => by kernel_rfl) fun wae0 hc => ?_
      refine (togr_any p0 a0 c0 x0 wae0 (HA0.out.on (S17.out.on hc.out.be).be) s0).mono ?_
      rintro e wbe0 ⟨ve0, rfl, oo, hb⟩
      refine ⟨_, rfl, ([.l wae0.heap.size wbe0.heap.size ve0 x0], none), Lib.hid (hc.out.add hb (Hl.mk1 oo) (Nat.le_refl _)), ?_⟩
      clear oo hb hc
      refine wpAnyH_call (i := 3) (d := some 65) 16 #[.agg #[.int .i64 p0, .slice Ax0 x0.length Cx0], .agg #[.int .i64 p0, ve0]] rfl (by kernel_rfl) rfl rfl (by kernel_rfl) (fun _ => by kernel_rfl) fun wc hc => ?_
      refine (eqgr_any p0 _ _ x0 wc (Ints.of_own ((Lib.hid (S17.out.on hc.out.be)).out.ls _ (.tail _ (.tail _ (.tail _ (.tail _ (.head _)))))).1 (small20 s0)) (Ints.of_own (hc.out.ls _ (.head _)).1 (small20 s0))).mono ?_
      rintro e wd ⟨rfl, hb⟩
      refine ⟨_, rfl, ([], none), Lib.hid ((hc.out.on hb).sub (fun _ m => (by cases m))), ?_⟩
      clear hb hc
      refine wpAnyH_special (i := 4) (d := some 66) rfl (by kernel_rfl) rfl rfl (by kernel_rfl) fun wy hcy => ⟨.bool false, wy, ([], none), .inl (by kernel_rfl), hcy, ?_⟩
      refine ⟨by kernel_rfl, fun w13 hz => ?_⟩
      simp only [Act.put, List.setIfInBounds_toArray, List.set_cons_zero, List.set_cons_succ]
      have S18 := Lib.hid (S17.out.on hz.out.be)
      clear S17
      have Z14 : Hid (w12.heap.size ≤ w13.heap.size) := Lib.hid (hz.out.be.size)
      clear hz hcy
      go_wp2_with fail
      apply wp_region_H (Z := List Cp × Option (Nat × List Value)) (S := fun k => k == 2 || k == 3 || k == 4) (C := fun z w' => Hid (Zx w13 z.1 z.2 w')) [0, 1] ([], none)
      · kernel_rfl
      · kernel_rfl
      · kernel_rfl
      · exact ⟨rfl, rfl, trivial⟩
      · rfl
      · decide
      · exact Lib.hid (Zx.start (Below.refl _ _).drew)
      · intro z
        dsimp only [pickL, nthO]
        go_big_quiet_want
        go_big_quiet_op
        refine ⟨.agg #[.int .i64 p1, .slice Ax1 x1.length Cx1], fun w' hw' => ?_, ?_⟩
        · have q9 := (S18.out.on hw'.out.be).bx _ (.head _)
          have q0 := q9.cell 0
          have q1 := q9.cell 1
          simp at q0 q1
          simp [go_sem, q0, q1]
        go_big_quiet_on
        go_big_quiet_want
        go_big_quiet_op
        refine ⟨.agg #[.int .i64 p1, .slice a1 x1.length c1], fun w' hw' => ?_, ?_⟩
        · have q9 := (S18.out.on hw'.out.be).bx _ (.tail _ (.tail _ (.head _)))
          have q0 := q9.cell 0
          have q1 := q9.cell 1
          simp at q0 q1
          simp [go_sem, q0, q1]
        go_big_quiet_on
        exact wpQuiet_nil rfl
      · skip
        refine wpAnyH_call (i := 2) (d := some 69) 14 #[.agg #[.int .i64 p1, .slice a1 x1.length c1]] rfl (by kernel_rfl) rfl rfl (by kernel_rfl) (fun _ => by kernel_rfl) fun wae0 hc => ?_
        refine (togr_any p1 a1 c1 x1 wae0 (HA1.out.on (S18.out.on hc.out.be).be) s1).mono ?_
        rintro e wbe0 ⟨ve0, rfl, oo, hb⟩
        refine ⟨_, rfl, ([.l wae0.heap.size wbe0.heap.size ve0 x1], none), Lib.hid (hc.out.add hb (Hl.mk1 oo) (Nat.le_refl _)), ?_⟩
        clear oo hb hc
        refine wpAnyH_call (i := 3) (d := some 70) 16 #[.agg #[.int .i64 p1, .slice Ax1 x1.length Cx1], .agg #[.int .i64 p1, ve0]] rfl (by kernel_rfl) rfl rfl (by kernel_rfl) (fun _ => by kernel_rfl) fun wc hc => ?_
        refine (eqgr_any p1 _ _ x1 wc (Ints.of_own ((Lib.hid (S18.out.on hc.out.be)).out.ls _ (.tail _ (.tail _ (.tail _ (.head _))))).1 (small20 s1)) (Ints.of_own (hc.out.ls _ (.head _)).1 (small20 s1))).mono ?_
        rintro e wd ⟨rfl, hb⟩
        refine ⟨_, rfl, ([], none), Lib.hid ((hc.out.on hb).sub (fun _ m => (by cases m))), ?_⟩
        clear hb hc
        refine wpAnyH_special (i := 4) (d := some 71) rfl (by kernel_rfl) rfl rfl (by kernel_rfl) fun wy hcy => ⟨.bool false, wy, ([], none), .inl (by kernel_rfl), hcy, ?_⟩
        refine ⟨by kernel_rfl, fun w14 hz => ?_⟩
        simp only [Act.put, List.setIfInBounds_toArray, List.set_cons_zero, List.set_cons_succ]
        have S19 := Lib.hid (S18.out.on hz.out.be)
        clear S18
        have Z15 : Hid (w13.heap.size ≤ w14.heap.size) := Lib.hid (hz.out.be.size)
        clear hz hcy
        go_wp2_with fail
        refine (toI_any a2 c2 x2 _ (HA2.out.on S19.out.be) s2).mono ?_
        rintro e w15 ⟨v9, rfl, oo, hb⟩
        have I9 := Lib.hid (Ints.of_own oo (small20 s2))
        have S20 := Lib.hid (S19.out.on hb)
        clear S19
        have Z16 : Hid (w14.heap.size ≤ w15.heap.size) := Lib.hid (hb.size)
        clear hb oo
        go_wp2_with fail
        refine (eqI_any _ v9 x2 _ (Ints.of_own (S20.out.ls _ (.tail _ (.tail _ (.head _)))).1 (small20 s2)) I9.out).mono ?_
        rintro e w16 ⟨rfl, hb⟩
        have S21 := Lib.hid (S20.out.on hb)
        clear S20
        have Z17 : Hid (w15.heap.size ≤ w16.heap.size) := Lib.hid (hb.size)
        clear hb I9
        go_wp2_with fail
        refine (toI_any a3 c3 x3 _ (HA3.out.on S21.out.be) s3).mono ?_
        rintro e w17 ⟨v9, rfl, oo, hb⟩
        have I9 := Lib.hid (Ints.of_own oo (small20 s3))
        have S22 := Lib.hid (S21.out.on hb)
        clear S21
        have Z18 : Hid (w16.heap.size ≤ w17.heap.size) := Lib.hid (hb.size)
        clear hb oo
        go_wp2_with fail
        refine (eqI_any _ v9 x3 _ (Ints.of_own (S22.out.ls _ (.tail _ (.head _))).1 (small20 s3)) I9.out).mono ?_
        rintro e w18 ⟨rfl, hb⟩
        have S23 := Lib.hid (S22.out.on hb)
        clear S22
        have Z19 : Hid (w17.heap.size ≤ w18.heap.size) := Lib.hid (hb.size)
        clear hb I9
        have qx0_0 := (S23.out.bx _ (.tail _ (.head _))).cell 0
        have qx0_1 := (S23.out.bx _ (.tail _ (.head _))).cell 1
        simp at qx0_0 qx0_1
        go_wp2_with fail
        refine (mkgr_any p0 w4.heap.size w5.heap.size _ x0 1 _ (S23.out.ls _ (.tail _ (.tail _ (.tail _ (.tail _ (.head _)))))) (by omega) (by omega) (by omega)).mono ?_
        rintro e w19 ⟨rfl, hh, ho⟩
        clear qx0_0 qx0_1
        have S24 := Lib.hid (Sx.markAt (L1 := [(cpU w10.heap.size w11.heap.size (.slice Agr uz2.length Cgr) uz2), .l w9.heap.size w10.heap.size (.slice Ax3 x3.length Cx3) x3, .l w8.heap.size w9.heap.size (.slice Ax2 x2.length Cx2) x2, .l w6.heap.size w7.heap.size (.slice Ax1 x1.length Cx1) x1]) (L2 := [(cpU wcz.heap.size wdz.heap.size (.slice Azr uz1.length Czr) uz1)]) (c := .l w4.heap.size w5.heap.size (.slice Ax0 x0.length Cx0) x0) (c' := .l w4.heap.size w5.heap.size (.slice Ax0 x0.length Cx0) (markTo x0 1 x0.length)) S23.out ho hh (by have := Z1.out; have := Z2.out; have := Z3.out; have := Z4.out; have := Z5.out; have := Z6.out; have := Z7.out; have := Z8.out; have := Z9.out; have := Z10.out; have := Z11.out; have := Z12.out; have := Z13.out; have := Z14.out; have := Z15.out; have := Z16.out; have := Z17.out; have := Z18.out; have := Z19.out; omega) (by have := Z1.out; have := Z2.out; have := Z3.out; have := Z4.out; have := Z5.out; have := Z6.out; have := Z7.out; have := Z8.out; have := Z9.out; have := Z10.out; have := Z11.out; have := Z12.out; have := Z13.out; have := Z14.out; have := Z15.out; have := Z16.out; have := Z17.out; have := Z18.out; have := Z19.out; omega) (all_cons (by show w7.heap.size < w4.heap.size ∨ w5.heap.size ≤ w7.heap.size; have := Z1.out; have := Z2.out; have := Z3.out; have := Z4.out; have := Z5.out; have := Z6.out; have := Z7.out; have := Z8.out; have := Z9.out; have := Z10.out; have := Z11.out; have := Z12.out; have := Z13.out; have := Z14.out; have := Z15.out; have := Z16.out; have := Z17.out; have := Z18.out; have := Z19.out; omega) (all_cons (by show w5.heap.size < w4.heap.size ∨ w5.heap.size ≤ w5.heap.size; have := Z1.out; have := Z2.out; have := Z3.out; have := Z4.out; have := Z5.out; have := Z6.out; have := Z7.out; have := Z8.out; have := Z9.out; have := Z10.out; have := Z11.out; have := Z12.out; have := Z13.out; have := Z14.out; have := Z15.out; have := Z16.out; have := Z17.out; have := Z18.out; have := Z19.out; omega) (all_cons (by show w.heap.size + 1 < w4.heap.size ∨ w5.heap.size ≤ w.heap.size + 1; have := Z1.out; have := Z2.out; have := Z3.out; have := Z4.out; have := Z5.out; have := Z6.out; have := Z7.out; have := Z8.out; have := Z9.out; have := Z10.out; have := Z11.out; have := Z12.out; have := Z13.out; have := Z14.out; have := Z15.out; have := Z16.out; have := Z17.out; have := Z18.out; have := Z19.out; omega) (all_cons (by show w.heap.size < w4.heap.size ∨ w5.heap.size ≤ w.heap.size; have := Z1.out; have := Z2.out; have := Z3.out; have := Z4.out; have := Z5.out; have := Z6.out; have := Z7.out; have := Z8.out; have := Z9.out; have := Z10.out; have := Z11.out; have := Z12.out; have := Z13.out; have := Z14.out; have := Z15.out; have := Z16.out; have := Z17.out; have := Z18.out; have := Z19.out; omega) all_nil)))) (all_cons (by show w11.heap.size ≤ w4.heap.size ∨ w5.heap.size ≤ w10.heap.size; have := Z1.out; have := Z2.out; have := Z3.out; have := Z4.out; have := Z5.out; have := Z6.out; have := Z7.out; have := Z8.out; have := Z9.out; have := Z10.out; have := Z11.out; have := Z12.out; have := Z13.out; have := Z14.out; have := Z15.out; have := Z16.out; have := Z17.out; have := Z18.out; have := Z19.out; omega) (all_cons (by show w10.heap.size ≤ w4.heap.size ∨ w5.heap.size ≤ w9.heap.size; have := Z1.out; have := Z2.out; have := Z3.out; have := Z4.out; have := Z5.out; have := Z6.out; have := Z7.out; have := Z8.out; have := Z9.out; have := Z10.out; have := Z11.out; have := Z12.out; have := Z13.out; have := Z14.out; have := Z15.out; have := Z16.out; have := Z17.out; have := Z18.out; have := Z19.out; omega) (all_cons (by show w9.heap.size ≤ w4.heap.size ∨ w5.heap.size ≤ w8.heap.size; have := Z1.out; have := Z2.out; have := Z3.out; have := Z4.out; have := Z5.out; have := Z6.out; have := Z7.out; have := Z8.out; have := Z9.out; have := Z10.out; have := Z11.out; have := Z12.out; have := Z13.out; have := Z14.out; have := Z15.out; have := Z16.out; have := Z17.out; have := Z18.out; have := Z19.out; omega) (all_cons (by show w7.heap.size ≤ w4.heap.size ∨ w5.heap.size ≤ w6.heap.size; have := Z1.out; have := Z2.out; have := Z3.out; have := Z4.out; have := Z5.out; have := Z6.out; have := Z7.out; have := Z8.out; have := Z9.out; have := Z10.out; have := Z11.out; have := Z12.out; have := Z13.out; have := Z14.out; have := Z15.out; have := Z16.out; have := Z17.out; have := Z18.out; have := Z19.out; omega) (all_cons (by show wdz.heap.size ≤ w4.heap.size ∨ w5.heap.size ≤ wcz.heap.size; have := Z1.out; have := Z2.out; have := Z3.out; have := Z4.out; have := Z5.out; have := Z6.out; have := Z7.out; have := Z8.out; have := Z9.out; have := Z10.out; have := Z11.out; have := Z12.out; have := Z13.out; have := Z14.out; have := Z15.out; have := Z16.out; have := Z17.out; have := Z18.out; have := Z19.out; omega) all_nil))))))
        clear S23
        have Z20 : Hid (w18.heap.size ≤ w19.heap.size) := Lib.hid (ho.size)
        clear hh ho
        obtain ⟨K1, hK⟩ : ∃ K : Int, 1 + (x0.length : Int) = K := ⟨_, rfl⟩
        have K1a : 0 ≤ K1 := by omega
        have K1b : K1 ≤ 3000000 := by omega
        rw [hK]
        have HK_1 := Lib.hid hK
        clear hK
        have qx1_0 := (S24.out.bx _ (.head _)).cell 0
        have qx1_1 := (S24.out.bx _ (.head _)).cell 1
        simp at qx1_0 qx1_1
        go_wp2_with fail
        refine (mkgr_any p1 w6.heap.size w7.heap.size _ x1 K1 _ (S24.out.ls _ (.tail _ (.tail _ (.tail _ (.head _))))) (by omega) (by omega) (by omega)).mono ?_
        rintro e w20 ⟨rfl, hh, ho⟩
        clear qx1_0 qx1_1
        have S25 := Lib.hid (Sx.markAt (L1 := [(cpU w10.heap.size w11.heap.size (.slice Agr uz2.length Cgr) uz2), .l w9.heap.size w10.heap.size (.slice Ax3 x3.length Cx3) x3, .l w8.heap.size w9.heap.size (.slice Ax2 x2.length Cx2) x2]) (L2 := [.l w4.heap.size w5.heap.size (.slice Ax0 x0.length Cx0) (markTo x0 1 x0.length), (cpU wcz.heap.size wdz.heap.size (.slice Azr uz1.length Czr) uz1)]) (c := .l w6.heap.size w7.heap.size (.slice Ax1 x1.length Cx1) x1) (c' := .l w6.heap.size w7.heap.size (.slice Ax1 x1.length Cx1) (markTo x1 K1 x1.length)) S24.out ho hh (by have := Z1.out; have := Z2.out; have := Z3.out; have := Z4.out; have := Z5.out; have := Z6.out; have := Z7.out; have := Z8.out; have := Z9.out; have := Z10.out; have := Z11.out; have := Z12.out; have := Z13.out; have := Z14.out; have := Z15.out; have := Z16.out; have := Z17.out; have := Z18.out; have := Z19.out; have := Z20.out; omega) (by have := Z1.out; have := Z2.out; have := Z3.out; have := Z4.out; have := Z5.out; have := Z6.out; have := Z7.out; have := Z8.out; have := Z9.out; have := Z10.out; have := Z11.out; have := Z12.out; have := Z13.out; have := Z14.out; have := Z15.out; have := Z16.out; have := Z17.out; have := Z18.out; have := Z19.out; have := Z20.out; omega) (all_cons (by show w7.heap.size < w6.heap.size ∨ w7.heap.size ≤ w7.heap.size; have := Z1.out; have := Z2.out; have := Z3.out; have := Z4.out; have := Z5.out; have := Z6.out; have := Z7.out; have := Z8.out; have := Z9.out; have := Z10.out; have := Z11.out; have := Z12.out; have := Z13.out; have := Z14.out; have := Z15.out; have := Z16.out; have := Z17.out; have := Z18.out; have := Z19.out; have := Z20.out; omega) (all_cons (by show w5.heap.size < w6.heap.size ∨ w7.heap.size ≤ w5.heap.size; have := Z1.out; have := Z2.out; have := Z3.out; have := Z4.out; have := Z5.out; have := Z6.out; have := Z7.out; have := Z8.out; have := Z9.out; have := Z10.out; have := Z11.out; have := Z12.out; have := Z13.out; have := Z14.out; have := Z15.out; have := Z16.out; have := Z17.out; have := Z18.out; have := Z19.out; have := Z20.out; omega) (all_cons (by show w.heap.size + 1 < w6.heap.size ∨ w7.heap.size ≤ w.heap.size + 1; have := Z1.out; have := Z2.out; have := Z3.out; have := Z4.out; have := Z5.out; have := Z6.out; have := Z7.out; have := Z8.out; have := Z9.out; have := Z10.out; have := Z11.out; have := Z12.out; have := Z13.out; have := Z14.out; have := Z15.out; have := Z16.out; have := Z17.out; have := Z18.out; have := Z19.out; have := Z20.out; omega) (all_cons (by show w.heap.size < w6.heap.size ∨ w7.heap.size ≤ w.heap.size; have := Z1.out; have := Z2.out; have := Z3.out; have := Z4.out; have := Z5.out; have := Z6.out; have := Z7.out; have := Z8.out; have := Z9.out; have := Z10.out; have := Z11.out; have := Z12.out; have := Z13.out; have := Z14.out; have := Z15.out; have := Z16.out; have := Z17.out; have := Z18.out; have := Z19.out; have := Z20.out; omega) all_nil)))) (all_cons (by show w11.heap.size ≤ w6.heap.size ∨ w7.heap.size ≤ w10.heap.size; have := Z1.out; have := Z2.out; have := Z3.out; have := Z4.out; have := Z5.out; have := Z6.out; have := Z7.out; have := Z8.out; have := Z9.out; have := Z10.out; have := Z11.out; have := Z12.out; have := Z13.out; have := Z14.out; have := Z15.out; have := Z16.out; have := Z17.out; have := Z18.out; have := Z19.out; have := Z20.out; omega) (all_cons (by show w10.heap.size ≤ w6.heap.size ∨ w7.heap.size ≤ w9.heap.size; have := Z1.out; have := Z2.out; have := Z3.out; have := Z4.out; have := Z5.out; have := Z6.out; have := Z7.out; have := Z8.out; have := Z9.out; have := Z10.out; have := Z11.out; have := Z12.out; have := Z13.out; have := Z14.out; have := Z15.out; have := Z16.out; have := Z17.out; have := Z18.out; have := Z19.out; have := Z20.out; omega) (all_cons (by show w9.heap.size ≤ w6.heap.size ∨ w7.heap.size ≤ w8.heap.size; have := Z1.out; have := Z2.out; have := Z3.out; have := Z4.out; have := Z5.out; have := Z6.out; have := Z7.out; have := Z8.out; have := Z9.out; have := Z10.out; have := Z11.out; have := Z12.out; have := Z13.out; have := Z14.out; have := Z15.out; have := Z16.out; have := Z17.out; have := Z18.out; have := Z19.out; have := Z20.out; omega) (all_cons (by show w5.heap.size ≤ w6.heap.size ∨ w7.heap.size ≤ w4.heap.size; have := Z1.out; have := Z2.out; have := Z3.out; have := Z4.out; have := Z5.out; have := Z6.out; have := Z7.out; have := Z8.out; have := Z9.out; have := Z10.out; have := Z11.out; have := Z12.out; have := Z13.out; have := Z14.out; have := Z15.out; have := Z16.out; have := Z17.out; have := Z18.out; have := Z19.out; have := Z20.out; omega) (all_cons (by show wdz.heap.size ≤ w6.heap.size ∨ w7.heap.size ≤ wcz.heap.size; have := Z1.out; have := Z2.out; have := Z3.out; have := Z4.out; have := Z5.out; have := Z6.out; have := Z7.out; have := Z8.out; have := Z9.out; have := Z10.out; have := Z11.out; have := Z12.out; have := Z13.out; have := Z14.out; have := Z15.out; have := Z16.out; have := Z17.out; have := Z18.out; have := Z19.out; have := Z20.out; omega) all_nil))))))
        clear S24
        have Z21 : Hid (w19.heap.size ≤ w20.heap.size) := Lib.hid (ho.size)
        clear hh ho
        obtain ⟨K2, hK⟩ : ∃ K : Int, K1 + (x1.length : Int) = K := ⟨_, rfl⟩
        have K2a : 0 ≤ K2 := by omega
        have K2b : K2 ≤ 6000000 := by omega
        rw [hK]
        have HK_2 := Lib.hid hK
        clear hK
        go_wp2_with fail
        refine (mkI_any w8.heap.size w9.heap.size _ x2 K2 _ (S25.out.ls _ (.tail _ (.tail _ (.head _)))) (by omega) (by omega) (by omega)).mono ?_
        rintro e w21 ⟨rfl, hh, ho⟩
        have S26 := Lib.hid (Sx.markAt (L1 := [(cpU w10.heap.size w11.heap.size (.slice Agr uz2.length Cgr) uz2), .l w9.heap.size w10.heap.size (.slice Ax3 x3.length Cx3) x3]) (L2 := [.l w6.heap.size w7.heap.size (.slice Ax1 x1.length Cx1) (markTo x1 K1 x1.length), .l w4.heap.size w5.heap.size (.slice Ax0 x0.length Cx0) (markTo x0 1 x0.length), (cpU wcz.heap.size wdz.heap.size (.slice Azr uz1.length Czr) uz1)]) (c := .l w8.heap.size w9.heap.size (.slice Ax2 x2.length Cx2) x2) (c' := .l w8.heap.size w9.heap.size (.slice Ax2 x2.length Cx2) (markTo x2 K2 x2.length)) S25.out ho hh (by have := Z1.out; have := Z2.out; have := Z3.out; have := Z4.out; have := Z5.out; have := Z6.out; have := Z7.out; have := Z8.out; have := Z9.out; have := Z10.out; have := Z11.out; have := Z12.out; have := Z13.out; have := Z14.out; have := Z15.out; have := Z16.out; have := Z17.out; have := Z18.out; have := Z19.out; have := Z20.out; have := Z21.out; omega) (by have := Z1.out; have := Z2.out; have := Z3.out; have := Z4.out; have := Z5.out; have := Z6.out; have := Z7.out; have := Z8.out; have := Z9.out; have := Z10.out; have := Z11.out; have := Z12.out; have := Z13.out; have := Z14.out; have := Z15.out; have := Z16.out; have := Z17.out; have := Z18.out; have := Z19.out; have := Z20.out; have := Z21.out; omega) (all_cons (by show w7.heap.size < w8.heap.size ∨ w9.heap.size ≤ w7.heap.size; have := Z1.out; have := Z2.out; have := Z3.out; have := Z4.out; have := Z5.out; have := Z6.out; have := Z7.out; have := Z8.out; have := Z9.out; have := Z10.out; have := Z11.out; have := Z12.out; have := Z13.out; have := Z14.out; have := Z15.out; have := Z16.out; have := Z17.out; have := Z18.out; have := Z19.out; have := Z20.out; have := Z21.out; omega) (all_cons (by show w5.heap.size < w8.heap.size ∨ w9.heap.size ≤ w5.heap.size; have := Z1.out; have := Z2.out; have := Z3.out; have := Z4.out; have := Z5.out; have := Z6.out; have := Z7.out; have := Z8.out; have := Z9.out; have := Z10.out; have := Z11.out; have := Z12.out; have := Z13.out; have := Z14.out; have := Z15.out; have := Z16.out; have := Z17.out; have := Z18.out; have := Z19.out; have := Z20.out; have := Z21.out; omega) (all_cons (by show w.heap.size + 1 < w8.heap.size ∨ w9.heap.size ≤ w.heap.size + 1; have := Z1.out; have := Z2.out; have := Z3.out; have := Z4.out; have := Z5.out; have := Z6.out; have := Z7.out; have := Z8.out; have := Z9.out; have := Z10.out; have := Z11.out; have := Z12.out; have := Z13.out; have := Z14.out; have := Z15.out; have := Z16.out; have := Z17.out; have := Z18.out; have := Z19.out; have := Z20.out; have := Z21.out; omega) (all_cons (by show w.heap.size < w8.heap.size ∨ w9.heap.size ≤ w.heap.size; have := Z1.out; have := Z2.out; have := Z3.out; have := Z4.out; have := Z5.out; have := Z6.out; have := Z7.out; have := Z8.out; have := Z9.out; have := Z10.out; have := Z11.out; have := Z12.out; have := Z13.out; have := Z14.out; have := Z15.out; have := Z16.out; have := Z17.out; have := Z18.out; have := Z19.out; have := Z20.out; have := Z21.out; omega) all_nil)))) (all_cons (by show w11.heap.size ≤ w8.heap.size ∨ w9.heap.size ≤ w10.heap.size; have := Z1.out; have := Z2.out; have := Z3.out; have := Z4.out; have := Z5.out; have := Z6.out; have := Z7.out; have := Z8.out; have := Z9.out; have := Z10.out; have := Z11.out; have := Z12.out; have := Z13.out; have := Z14.out; have := Z15.out; have := Z16.out; have := Z17.out; have := Z18.out; have := Z19.out; have := Z20.out; have := Z21.out; omega) (all_cons (by show w10.heap.size ≤ w8.heap.size ∨ w9.heap.size ≤ w9.heap.size; have := Z1.out; have := Z2.out; have := Z3.out; have := Z4.out; have := Z5.out; have := Z6.out; have := Z7.out; have := Z8.out; have := Z9.out; have := Z10.out; have := Z11.out; have := Z12.out; have := Z13.out; have := Z14.out; have := Z15.out; have := Z16.out; have := Z17.out; have := Z18.out; have := Z19.out; have := Z20.out; have := Z21.out; omega) (all_cons (by show w7.heap.size ≤ w8.heap.size ∨ w9.heap.size ≤ w6.heap.size; have := Z1.out; have := Z2.out; have := Z3.out; have := Z4.out; have := Z5.out; have := Z6.out; have := Z7.out; have := Z8.out; have := Z9.out; have := Z10.out; have := Z11.out; have := Z12.out; have := Z13.out; have := Z14.out; have := Z15.out; have := Z16.out; have := Z17.out; have := Z18.out; have := Z19.out; have := Z20.out; have := Z21.out; omega) (all_cons (by show w5.heap.size ≤ w8.heap.size ∨ w9.heap.size ≤ w4.heap.size; have := Z1.out; have := Z2.out; have := Z3.out; have := Z4.out; have := Z5.out; have := Z6.out; have := Z7.out; have := Z8.out; have := Z9.out; have := Z10.out; have := Z11.out; have := Z12.out; have := Z13.out; have := Z14.out; have := Z15.out; have := Z16.out; have := Z17.out; have := Z18.out; have := Z19.out; have := Z20.out; have := Z21.out; omega) (all_cons (by show wdz.heap.size ≤ w8.heap.size ∨ w9.heap.size ≤ wcz.heap.size; have := Z1.out; have := Z2.out; have := Z3.out; have := Z4.out; have := Z5.out; have := Z6.out; have := Z7.out; have := Z8.out; have := Z9.out; have := Z10.out; have := Z11.out; have := Z12.out; have := Z13.out; have := Z14.out; have := Z15.out; have := Z16.out; have := Z17.out; have := Z18.out; have := Z19.out; have := Z20.out; have := Z21.out; omega) all_nil))))))
        clear S25
        have Z22 : Hid (w20.heap.size ≤ w21.heap.size) := Lib.hid (ho.size)
        clear hh ho
        obtain ⟨K3, hK⟩ : ∃ K : Int, K2 + (x2.length : Int) = K := ⟨_, rfl⟩
        have K3a : 0 ≤ K3 := by omega
        have K3b : K3 ≤ 9000000 := by omega
        rw [hK]
        have HK_3 := Lib.hid hK
        clear hK
        go_wp2_with fail
        refine (mkI_any w9.heap.size w10.heap.size _ x3 K3 _ (S26.out.ls _ (.tail _ (.head _))) (by omega) (by omega) (by omega)).mono ?_
        rintro e w22 ⟨rfl, hh, ho⟩
        have S27 := Lib.hid (Sx.markAt (L1 := [(cpU w10.heap.size w11.heap.size (.slice Agr uz2.length Cgr) uz2)]) (L2 := [.l w8.heap.size w9.heap.size (.slice Ax2 x2.length Cx2) (markTo x2 K2 x2.length), .l w6.heap.size w7.heap.size (.slice Ax1 x1.length Cx1) (markTo x1 K1 x1.length), .l w4.heap.size w5.heap.size (.slice Ax0 x0.length Cx0) (markTo x0 1 x0.length), (cpU wcz.heap.size wdz.heap.size (.slice Azr uz1.length Czr) uz1)]) (c := .l w9.heap.size w10.heap.size (.slice Ax3 x3.length Cx3) x3) (c' := .l w9.heap.size w10.heap.size (.slice Ax3 x3.length Cx3) (markTo x3 K3 x3.length)) S26.out ho hh (by have := Z1.out; have := Z2.out; have := Z3.out; have := Z4.out; have := Z5.out; have := Z6.out; have := Z7.out; have := Z8.out; have := Z9.out; have := Z10.out; have := Z11.out; have := Z12.out; have := Z13.out; have := Z14.out; have := Z15.out; have := Z16.out; have := Z17.out; have := Z18.out; have := Z19.out; have := Z20.out; have := Z21.out; have := Z22.out; omega) (by have := Z1.out; have := Z2.out; have := Z3.out; have := Z4.out; have := Z5.out; have := Z6.out; have := Z7.out; have := Z8.out; have := Z9.out; have := Z10.out; have := Z11.out; have := Z12.out; have := Z13.out; have := Z14.out; have := Z15.out; have := Z16.out; have := Z17.out; have := Z18.out; have := Z19.out; have := Z20.out; have := Z21.out; have := Z22.out; omega) (all_cons (by show w7.heap.size < w9.heap.size ∨ w10.heap.size ≤ w7.heap.size; have := Z1.out; have := Z2.out; have := Z3.out; have := Z4.out; have := Z5.out; have := Z6.out; have := Z7.out; have := Z8.out; have := Z9.out; have := Z10.out; have := Z11.out; have := Z12.out; have := Z13.out; have := Z14.out; have := Z15.out; have := Z16.out; have := Z17.out; have := Z18.out; have := Z19.out; have := Z20.out; have := Z21.out; have := Z22.out; omega) (all_cons (by show w5.heap.size < w9.heap.size ∨ w10.heap.size ≤ w5.heap.size; have := Z1.out; have := Z2.out; have := Z3.out; have := Z4.out; have := Z5.out; have := Z6.out; have := Z7.out; have := Z8.out; have := Z9.out; have := Z10.out; have := Z11.out; have := Z12.out; have := Z13.out; have := Z14.out; have := Z15.out; have := Z16.out; have := Z17.out; have := Z18.out; have := Z19.out; have := Z20.out; have := Z21.out; have := Z22.out; omega) (all_cons (by show w.heap.size + 1 < w9.heap.size ∨ w10.heap.size ≤ w.heap.size + 1; have := Z1.out; have := Z2.out; have := Z3.out; have := Z4.out; have := Z5.out; have := Z6.out; have := Z7.out; have := Z8.out; have := Z9.out; have := Z10.out; have := Z11.out; have := Z12.out; have := Z13.out; have := Z14.out; have := Z15.out; have := Z16.out; have := Z17.out; have := Z18.out; have := Z19.out; have := Z20.out; have := Z21.out; have := Z22.out; omega) (all_cons (by show w.heap.size < w9.heap.size ∨ w10.heap.size ≤ w.heap.size; have := Z1.out; have := Z2.out; have := Z3.out; have := Z4.out; have := Z5.out; have := Z6.out; have := Z7.out; have := Z8.out; have := Z9.out; have := Z10.out; have := Z11.out; have := Z12.out; have := Z13.out; have := Z14.out; have := Z15.out; have := Z16.out; have := Z17.out; have := Z18.out; have := Z19.out; have := Z20.out; have := Z21.out; have := Z22.out; omega) all_nil)))) (all_cons (by show w11.heap.size ≤ w9.heap.size ∨ w10.heap.size ≤ w10.heap.size; have := Z1.out; have := Z2.out; have := Z3.out; have := Z4.out; have := Z5.out; have := Z6.out; have := Z7.out; have := Z8.out; have := Z9.out; have := Z10.out; have := Z11.out; have := Z12.out; have := Z13.out; have := Z14.out; have := Z15.out; have := Z16.out; have := Z17.out; have := Z18.out; have := Z19.out; have := Z20.out; have := Z21.out; have := Z22.out; omega) (all_cons (by show w9.heap.size ≤ w9.heap.size ∨ w10.heap.size ≤ w8.heap.size; have := Z1.out; have := Z2.out; have := Z3.out; have := Z4.out; have := Z5.out; have := Z6.out; have := Z7.out; have := Z8.out; have := Z9.out; have := Z10.out; have := Z11.out; have := Z12.out; have := Z13.out; have := Z14.out; have := Z15.out; have := Z16.out; have := Z17.out; have := Z18.out; have := Z19.out; have := Z20.out; have := Z21.out; have := Z22.out; omega) (all_cons (by show w7.heap.size ≤ w9.heap.size ∨ w10.heap.size ≤ w6.heap.size; have := Z1.out; have := Z2.out; have := Z3.out; have := Z4.out; have := Z5.out; have := Z6.out; have := Z7.out; have := Z8.out; have := Z9.out; have := Z10.out; have := Z11.out; have := Z12.out; have := Z13.out; have := Z14.out; have := Z15.out; have := Z16.out; have := Z17.out; have := Z18.out; have := Z19.out; have := Z20.out; have := Z21.out; have := Z22.out; omega) (all_cons (by show w5.heap.size ≤ w9.heap.size ∨ w10.heap.size ≤ w4.heap.size; have := Z1.out; have := Z2.out; have := Z3.out; have := Z4.out; have := Z5.out; have := Z6.out; have := Z7.out; have := Z8.out; have := Z9.out; have := Z10.out; have := Z11.out; have := Z12.out; have := Z13.out; have := Z14.out; have := Z15.out; have := Z16.out; have := Z17.out; have := Z18.out; have := Z19.out; have := Z20.out; have := Z21.out; have := Z22.out; omega) (all_cons (by show wdz.heap.size ≤ w9.heap.size ∨ w10.heap.size ≤ wcz.heap.size; have := Z1.out; have := Z2.out; have := Z3.out; have := Z4.out; have := Z5.out; have := Z6.out; have := Z7.out; have := Z8.out; have := Z9.out; have := Z10.out; have := Z11.out; have := Z12.out; have := Z13.out; have := Z14.out; have := Z15.out; have := Z16.out; have := Z17.out; have := Z18.out; have := Z19.out; have := Z20.out; have := Z21.out; have := Z22.out; omega) all_nil))))))
        clear S26
        have Z23 : Hid (w21.heap.size ≤ w22.heap.size) := Lib.hid (ho.size)
        clear hh ho
        obtain ⟨K4, hK⟩ : ∃ K : Int, K3 + (x3.length : Int) = K := ⟨_, rfl⟩
        have K4a : 0 ≤ K4 := by omega
        have K4b : K4 ≤ 12000000 := by omega
        rw [hK]
        have HK_4 := Lib.hid hK
        clear hK
        have hk0 : ¬ K4 < 0 := by omega
        have hkd : decide (K4 < 0) = false := by simp; omega
        go_wp2_with fail
        refine (equ_any _ _ _ _ _ _ uz2 uz1 _ (S27.out.ls _ (.head _)).1 (S27.out.ls _ (.tail _ (.tail _ (.tail _ (.tail _ (.tail _ (.head _))))))).1 (HFU.out _ HE2.out) (HFU.out _ HE1.out) (HE2.out.trans HE1.out.symm)).mono ?_
        rintro e w23 ⟨rfl, hb⟩
        have S28 := Lib.hid (S27.out.on hb)
        clear S27
        have Z24 : Hid (w22.heap.size ≤ w23.heap.size) := Lib.hid (hb.size)
        clear hb
        have hxm : cntU uz2 uz2.length ≤ 2002000 := cntU_top (HFU.out _ HE2.out)
        go_wp2_with fail
        refine (mkUh w10.heap.size w11.heap.size _ uz2 _ (S28.out.ls _ (.head _)) (HFU.out _ HE2.out)).mono ?_
        rintro e w24 ⟨rfl, hh, ho⟩
        have S29 := Lib.hid (Sx.markAt (L1 := []) (L2 := [.l w9.heap.size w10.heap.size (.slice Ax3 x3.length Cx3) (markTo x3 K3 x3.length), .l w8.heap.size w9.heap.size (.slice Ax2 x2.length Cx2) (markTo x2 K2 x2.length), .l w6.heap.size w7.heap.size (.slice Ax1 x1.length Cx1) (markTo x1 K1 x1.length), .l w4.heap.size w5.heap.size (.slice Ax0 x0.length Cx0) (markTo x0 1 x0.length), (cpU wcz.heap.size wdz.heap.size (.slice Azr uz1.length Czr) uz1)]) (c := (cpU w10.heap.size w11.heap.size (.slice Agr uz2.length Cgr) uz2)) (c' := (cpU w10.heap.size w11.heap.size (.slice Agr uz2.length Cgr) (mkU uz2 1 uz2.length))) S28.out ho hh (by have := Z1.out; have := Z2.out; have := Z3.out; have := Z4.out; have := Z5.out; have := Z6.out; have := Z7.out; have := Z8.out; have := Z9.out; have := Z10.out; have := Z11.out; have := Z12.out; have := Z13.out; have := Z14.out; have := Z15.out; have := Z16.out; have := Z17.out; have := Z18.out; have := Z19.out; have := Z20.out; have := Z21.out; have := Z22.out; have := Z23.out; have := Z24.out; omega) (by have := Z1.out; have := Z2.out; have := Z3.out; have := Z4.out; have := Z5.out; have := Z6.out; have := Z7.out; have := Z8.out; have := Z9.out; have := Z10.out; have := Z11.out; have := Z12.out; have := Z13.out; have := Z14.out; have := Z15.out; have := Z16.out; have := Z17.out; have := Z18.out; have := Z19.out; have := Z20.out; have := Z21.out; have := Z22.out; have := Z23.out; have := Z24.out; omega) (all_cons (by show w7.heap.size < w10.heap.size ∨ w11.heap.size ≤ w7.heap.size; have := Z1.out; have := Z2.out; have := Z3.out; have := Z4.out; have := Z5.out; have := Z6.out; have := Z7.out; have := Z8.out; have := Z9.out; have := Z10.out; have := Z11.out; have := Z12.out; have := Z13.out; have := Z14.out; have := Z15.out; have := Z16.out; have := Z17.out; have := Z18.out; have := Z19.out; have := Z20.out; have := Z21.out; have := Z22.out; have := Z23.out; have := Z24.out; omega) (all_cons (by show w5.heap.size < w10.heap.size ∨ w11.heap.size ≤ w5.heap.size; have := Z1.out; have := Z2.out; have := Z3.out; have := Z4.out; have := Z5.out; have := Z6.out; have := Z7.out; have := Z8.out; have := Z9.out; have := Z10.out; have := Z11.out; have := Z12.out; have := Z13.out; have := Z14.out; have := Z15.out; have := Z16.out; have := Z17.out; have := Z18.out; have := Z19.out; have := Z20.out; have := Z21.out; have := Z22.out; have := Z23.out; have := Z24.out; omega) (all_cons (by show w.heap.size + 1 < w10.heap.size ∨ w11.heap.size ≤ w.heap.size + 1; have := Z1.out; have := Z2.out; have := Z3.out; have := Z4.out; have := Z5.out; have := Z6.out; have := Z7.out; have := Z8.out; have := Z9.out; have := Z10.out; have := Z11.out; have := Z12.out; have := Z13.out; have := Z14.out; have := Z15.out; have := Z16.out; have := Z17.out; have := Z18.out; have := Z19.out; have := Z20.out; have := Z21.out; have := Z22.out; have := Z23.out; have := Z24.out; omega) (all_cons (by show w.heap.size < w10.heap.size ∨ w11.heap.size ≤ w.heap.size; have := Z1.out; have := Z2.out; have := Z3.out; have := Z4.out; have := Z5.out; have := Z6.out; have := Z7.out; have := Z8.out; have := Z9.out; have := Z10.out; have := Z11.out; have := Z12.out; have := Z13.out; have := Z14.out; have := Z15.out; have := Z16.out; have := Z17.out; have := Z18.out; have := Z19.out; have := Z20.out; have := Z21.out; have := Z22.out; have := Z23.out; have := Z24.out; omega) all_nil)))) (all_cons (by show w10.heap.size ≤ w10.heap.size ∨ w11.heap.size ≤ w9.heap.size; have := Z1.out; have := Z2.out; have := Z3.out; have := Z4.out; have := Z5.out; have := Z6.out; have := Z7.out; have := Z8.out; have := Z9.out; have := Z10.out; have := Z11.out; have := Z12.out; have := Z13.out; have := Z14.out; have := Z15.out; have := Z16.out; have := Z17.out; have := Z18.out; have := Z19.out; have := Z20.out; have := Z21.out; have := Z22.out; have := Z23.out; have := Z24.out; omega) (all_cons (by show w9.heap.size ≤ w10.heap.size ∨ w11.heap.size ≤ w8.heap.size; have := Z1.out; have := Z2.out; have := Z3.out; have := Z4.out; have := Z5.out; have := Z6.out; have := Z7.out; have := Z8.out; have := Z9.out; have := Z10.out; have := Z11.out; have := Z12.out; have := Z13.out; have := Z14.out; have := Z15.out; have := Z16.out; have := Z17.out; have := Z18.out; have := Z19.out; have := Z20.out; have := Z21.out; have := Z22.out; have := Z23.out; have := Z24.out; omega) (all_cons (by show w7.heap.size ≤ w10.heap.size ∨ w11.heap.size ≤ w6.heap.size; have := Z1.out; have := Z2.out; have := Z3.out; have := Z4.out; have := Z5.out; have := Z6.out; have := Z7.out; have := Z8.out; have := Z9.out; have := Z10.out; have := Z11.out; have := Z12.out; have := Z13.out; have := Z14.out; have := Z15.out; have := Z16.out; have := Z17.out; have := Z18.out; have := Z19.out; have := Z20.out; have := Z21.out; have := Z22.out; have := Z23.out; have := Z24.out; omega) (all_cons (by show w5.heap.size ≤ w10.heap.size ∨ w11.heap.size ≤ w4.heap.size; have := Z1.out; have := Z2.out; have := Z3.out; have := Z4.out; have := Z5.out; have := Z6.out; have := Z7.out; have := Z8.out; have := Z9.out; have := Z10.out; have := Z11.out; have := Z12.out; have := Z13.out; have := Z14.out; have := Z15.out; have := Z16.out; have := Z17.out; have := Z18.out; have := Z19.out; have := Z20.out; have := Z21.out; have := Z22.out; have := Z23.out; have := Z24.out; omega) (all_cons (by show wdz.heap.size ≤ w10.heap.size ∨ w11.heap.size ≤ wcz.heap.size; have := Z1.out; have := Z2.out; have := Z3.out; have := Z4.out; have := Z5.out; have := Z6.out; have := Z7.out; have := Z8.out; have := Z9.out; have := Z10.out; have := Z11.out; have := Z12.out; have := Z13.out; have := Z14.out; have := Z15.out; have := Z16.out; have := Z17.out; have := Z18.out; have := Z19.out; have := Z20.out; have := Z21.out; have := Z22.out; have := Z23.out; have := Z24.out; omega) all_nil))))))
        clear S28
        have Z25 : Hid (w23.heap.size ≤ w24.heap.size) := Lib.hid (ho.size)
        clear hh ho
        obtain ⟨K5, hK⟩ : ∃ K : Int, 1 + (cntU uz2 uz2.length : Int) = K := ⟨_, rfl⟩
        have K5a : 0 ≤ K5 := by omega
        have K5b : K5 ≤ 15000000 := by omega
        rw [hK]
        have HK_5 := Lib.hid hK
        clear hK
        have hm0 : ¬ K5 < 0 := by omega
        have hmn : (K5 != K5) = false := by simp
        go_wp2_with fail
        refine (hdUh w10.heap.size w11.heap.size _ uz2 _ (S29.out.ls _ (.head _)) (HFU.out _ HE2.out)).mono ?_
        rintro e w25 ⟨rfl, hb⟩
        rw [HK_5.out]
        have S30 := Lib.hid (S29.out.on hb)
        clear S29
        have Z26 : Hid (w24.heap.size ≤ w25.heap.size) := Lib.hid (hb.size)
        clear hb
        go_wp2_with fail
        apply wp_region_H (Z := List Cp × Option (Nat × List Value)) (S := fun k => k == 1 || k == 3 || k == 5 || k == 7 || k == 8) (C := fun z w' => Hid (Zx w25 z.1 z.2 w')) [0, 2, 4, 6] ([], none)
        · kernel_rfl
        · kernel_rfl
        · kernel_rfl
        · exact ⟨rfl, rfl, rfl, rfl, trivial⟩
        · rfl
        · decide
        · exact Lib.hid (Zx.start (Below.refl _ _).drew)
        · intro z
          dsimp only [pickL, nthO]
          go_big_quiet_want
          go_big_quiet_op
          refine ⟨.agg #[.int .i64 p0, .slice a0 x0.length c0], fun w' hw' => ?_, ?_⟩
          · have q9 := (S30.out.on hw'.out.be).bx _ (.tail _ (.tail _ (.tail _ (.head _))))
            have q0 := q9.cell 0
            have q1 := q9.cell 1
            simp at q0 q1
            simp [go_sem, q0, q1]
          go_big_quiet_on
          go_big_quiet_want
          go_big_quiet_op
          refine ⟨.agg #[.int .i64 p1, .slice a1 x1.length c1], fun w' hw' => ?_, ?_⟩
          · have q9 := (S30.out.on hw'.out.be).bx _ (.tail _ (.tail _ (.head _)))
            have q0 := q9.cell 0
            have q1 := q9.cell 1
            simp at q0 q1
            simp [go_sem, q0, q1]
          go_big_quiet_on
          go_big_quiet_want; go_big_quiet_op; first | go_big_quiet_on | (refine ⟨_, fun _ _ => rfl, ?_⟩; go_big_quiet_on)
          go_big_quiet_want; go_big_quiet_op; first | go_big_quiet_on | (refine ⟨_, fun _ _ => rfl, ?_⟩; go_big_quiet_on)
          exact wpQuiet_nil rfl
        · skip
          refine wpAnyH_call (i := 1) (d := some 114) 14 #[.agg #[.int .i64 p0, .slice a0 x0.length c0]] rfl (by kernel_rfl) rfl rfl (by kernel_rfl) (fun _ => by kernel_rfl) fun way0 hc => ?_
          refine (togr_any p0 a0 c0 x0 way0 (HA0.out.on (S30.out.on hc.out.be).be) s0).mono ?_
          rintro e wby0 ⟨vy0, rfl, oo, hb⟩
          refine ⟨_, rfl, ([.l way0.heap.size wby0.heap.size vy0 x0], none), Lib.hid (hc.out.add hb (Hl.mk1 oo) (Nat.le_refl _)), ?_⟩
          clear oo hb hc
          refine wpAnyH_call (i := 3) (d := some 116) 14 #[.agg #[.int .i64 p1, .slice a1 x1.length c1]] rfl (by kernel_rfl) rfl rfl (by kernel_rfl) (fun _ => by kernel_rfl) fun way1 hc => ?_
          refine (togr_any p1 a1 c1 x1 way1 (HA1.out.on (S30.out.on hc.out.be).be) s1).mono ?_
          rintro e wby1 ⟨vy1, rfl, oo, hb⟩
          refine ⟨_, rfl, ([.l way1.heap.size wby1.heap.size vy1 x1, .l way0.heap.size wby0.heap.size vy0 x0], none), Lib.hid (hc.out.add hb (Hl.mk1 oo) (Nat.le_refl _)), ?_⟩
          clear oo hb hc
          refine wpAnyH_call (i := 5) (d := some 118) 9 #[.slice a2 x2.length c2] rfl (by kernel_rfl) rfl rfl (by kernel_rfl) (fun _ => by kernel_rfl) fun way2 hc => ?_
          refine (toI_any a2 c2 x2 way2 (HA2.out.on (S30.out.on hc.out.be).be) s2).mono ?_
          rintro e wby2 ⟨vy2, rfl, oo, hb⟩
          refine ⟨_, rfl, ([.l way2.heap.size wby2.heap.size vy2 x2, .l way1.heap.size wby1.heap.size vy1 x1, .l way0.heap.size wby0.heap.size vy0 x0], none), Lib.hid (hc.out.add hb (Hl.mk1 oo) (Nat.le_refl _)), ?_⟩
          clear oo hb hc
          refine wpAnyH_call (i := 7) (d := some 120) 9 #[.slice a3 x3.length c3] rfl (by kernel_rfl) rfl rfl (by kernel_rfl) (fun _ => by kernel_rfl) fun way3 hc => ?_
          refine (toI_any a3 c3 x3 way3 (HA3.out.on (S30.out.on hc.out.be).be) s3).mono ?_
          rintro e wby3 ⟨vy3, rfl, oo, hb⟩
          refine ⟨_, rfl, ([.l way3.heap.size wby3.heap.size vy3 x3, .l way2.heap.size wby2.heap.size vy2 x2, .l way1.heap.size wby1.heap.size vy1 x1, .l way0.heap.size wby0.heap.size vy0 x0], none), Lib.hid (hc.out.add hb (Hl.mk1 oo) (Nat.le_refl _)), ?_⟩
          clear oo hb hc
          refine wpAnyH_call (i := 8) (d := some 121) 18 #[.agg #[.int .i64 p0, vy0], .agg #[.int .i64 p1, vy1], vy2, vy3] rfl (by kernel_rfl) rfl rfl (by kernel_rfl) (fun _ => by kernel_rfl) fun wcy hc => ?_
          refine (ihr_any p0 p1 _ _ _ _ x0 x1 x2 x3 wcy (Ints.of_own (hc.out.ls _ (.tail _ (.tail _ (.tail _ (.head _))))).1 (small20 s0)) (Ints.of_own (hc.out.ls _ (.tail _ (.tail _ (.head _)))).1 (small20 s1)) (Ints.of_own (hc.out.ls _ (.tail _ (.head _))).1 (small20 s2)) (Ints.of_own (hc.out.ls _ (.head _)).1 (small20 s3)) (hc.out.ls _ (.tail _ (.head _))).1.capped IX0.out IX1.out).mono ?_
          rintro e wdy ⟨vy, uz3, rfl, oo, em3, hb⟩
          rw [HVV.out] at em3
          have HE3 := Lib.hid em3
          clear em3
          refine ⟨_, rfl, ([cpU wcy.heap.size wdy.heap.size vy uz3], none), Lib.hid (((hc.out.sub (L' := []) (fun _ m => (by cases m))).add hb (Hl.mkU oo) (Nat.le_refl _))), ?_⟩
          clear hb oo hc
          refine wpAnyH_take (i := 9) (d := some 19) (vy) rfl (by kernel_rfl) rfl rfl (by kernel_rfl) (by kernel_rfl) (by kernel_rfl) (fun _ => by kernel_rfl) ?_
          refine ⟨by kernel_rfl, fun w26 hz => ?_⟩
          simp only [Act.put, List.setIfInBounds_toArray, List.set_cons_zero, List.set_cons_succ]
          have S31 := Lib.hid (hz.out.fin0 S30.out)
          clear S30
          obtain ⟨⟨Ayr, Cyr, ef⟩, _⟩ := OwnU.form (S31.out.ls _ (.head _)).1
          subst ef
          have Z27 : Hid (wdy.heap.size ≤ w26.heap.size) := Lib.hid ((S31.out.ls _ (.head _)).size)
          have Z28 : Hid (w25.heap.size ≤ w26.heap.size) := Lib.hid (hz.out.be.size)
          clear hz
          go_wp2_with fail
          refine (equ_any _ _ _ _ _ _ uz3 uz1 _ (S31.out.ls _ (.head _)).1 (S31.out.ls _ (.tail _ (.tail _ (.tail _ (.tail _ (.tail _ (.tail _ (.head _)))))))).1 (HFU.out _ HE3.out) (HFU.out _ HE1.out) (HE3.out.trans HE1.out.symm)).mono ?_
          rintro e w27 ⟨rfl, hb⟩
          have S32 := Lib.hid (S31.out.on hb)
          clear S31
          have Z29 : Hid (w26.heap.size ≤ w27.heap.size) := Lib.hid (hb.size)
          clear hb
          go_wp2_with fail
          refine (hdUh w10.heap.size w11.heap.size _ uz2 _ (S32.out.ls _ (.tail _ (.head _))) (HFU.out _ HE2.out)).mono ?_
          rintro e w28 ⟨rfl, hb⟩
          rw [HK_5.out]
          have S33 := Lib.hid (S32.out.on hb)
          clear S32
          have Z30 : Hid (w27.heap.size ≤ w28.heap.size) := Lib.hid (hb.size)
          clear hb
          go_wp2
          go_ret
          exact ⟨rfl, S33.out.be⟩
end Go.Proofs.Ytlcegpmhlnilfaa
