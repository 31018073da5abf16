/- The exact law of OrderFrom, walked: spec's answer, impl's answer, and that both are the same; no argument is written to; the answer owns its memory. -/
import Derived.Test.YtipndddmjgjgpaaTrnX
import Derived.Test.YtipndddmjgjgpaaGrC
import Derived.Test.YtipndddmjgjgpaaRegionL
import Derived.Deep.Cut
namespace Go.Proofs.Ytipndddmjgjgpaa
open Go.RowKit

set_option maxRecDepth 100000 in
set_option maxHeartbeats 12800000 in
theorem xOrderFrom_walk (p0 : Int) (a0 : Option Addr) (c0 : Nat) (x0 : List Int) (p1 : Int) (a1 : Option Addr) (c1 : Nat) (x1 : List Int) (p2 : Int) (a2 : Option Addr) (c2 : Nat) (x2 : List Int) (n2 : Int) (b2 : Option Addr) (d2 : Nat) (y2 : List Int) (p3 : Int) (a3 : Option Addr) (c3 : Nat) (x3 : List Int) (n3 : Int) (b3 : Option Addr) (d3 : Nat) (y3 : List Int) (w : World) (h0 : ArgI w a0 x0) (m0 : x0.length ≤ maxLen) (ip0 : intIn p0) (ix0 : ∀ j, j < x0.length → intIn (nth x0 j)) (h1 : ArgI w a1 x1) (m1 : x1.length ≤ maxLen) (ip1 : intIn p1) (ix1 : ∀ j, j < x1.length → intIn (nth x1 j)) (h2 : ArgI w a2 x2) (m2 : x2.length ≤ maxLen) (k2 : ArgI w b2 y2) (o2 : y2.length ≤ maxLen) (h3 : ArgI w a3 x3) (m3 : x3.length ≤ maxLen) (k3 : ArgI w b3 y3) (o3 : y3.length ≤ maxLen) :
    Calls Try.prog 12 #[.agg #[.int .i64 p0, .slice a0 x0.length c0], .agg #[.int .i64 p1, .slice a1 x1.length c1], .agg #[.int .i64 p2, .slice a2 x2.length c2, .int .i64 n2, .slice b2 y2.length d2], .agg #[.int .i64 p3, .slice a3 x3.length c3, .int .i64 n3, .slice b3 y3.length d3]] w fun e w' => e = .returned (.bool true) ∧ Below w.heap.size w w' := by
  have HA0 := Lib.hid h0
  clear h0
  have IP0 := Lib.hid ip0
  have IX0 := Lib.hid ix0
  clear ip0 ix0
  have HA1 := Lib.hid h1
  clear h1
  have IP1 := Lib.hid ip1
  have IX1 := Lib.hid ix1
  clear ip1 ix1
  have HA2 := Lib.hid h2
  clear h2
  have HK2 := Lib.hid k2
  clear k2
  have HA3 := Lib.hid h3
  clear h3
  have HK3 := Lib.hid k3
  clear k3
  obtain ⟨XS, hXS⟩ : ∃ r, ofrL p0 x0 p1 x1 p2 x2 n2 y2 p3 x3 n3 y3 = r := ⟨_, rfl⟩
  obtain ⟨BB, hBB⟩ : ∃ r, ofrB p0 x0 p1 x1 p2 x2 n2 y2 p3 x3 n3 y3 = r := ⟨_, rfl⟩
  have HXL : Hid (XS.length ≤ maxLen) := Lib.hid (by rw [← hXS]; exact few5 ofrL_few)
  have HXM : Hid (XS.length ≤ 1000) := Lib.hid (by rw [← hXS]; exact Nat.le_trans ofrL_few (by omega))
  have HXS := Lib.hid hXS
  clear hXS
  have HBB := Lib.hid hBB
  clear hBB
  have HM0 := Lib.hid m0
  clear m0
  have HM1 := Lib.hid m1
  clear m1
  have HM2 := Lib.hid m2
  clear m2
  have HO2 := Lib.hid o2
  clear o2
  have HM3 := Lib.hid m3
  clear m3
  have HO3 := Lib.hid o3
  clear o3
  have SS0 : Hid (Sx w [] [] w) := Lib.hid (Sx.start w)
  have SS1 : Hid (Sx w [(w.heap.size, [.int .i64 p0, .slice a0 x0.length c0])] [] (w.alloc (.cells #[.int .i64 p0, .slice a0 x0.length c0] 24))) := Lib.hid (SS0.out.made [.int .i64 p0, .slice a0 x0.length c0] 24)
  clear SS0
  have SS2 : Hid (Sx w [(w.heap.size + 1, [.int .i64 p1, .slice a1 x1.length c1]), (w.heap.size, [.int .i64 p0, .slice a0 x0.length c0])] [] ((w.alloc (.cells #[.int .i64 p0, .slice a0 x0.length c0] 24)).alloc (.cells #[.int .i64 p1, .slice a1 x1.length c1] 24))) := Lib.hid (by have := SS1.out.made [.int .i64 p1, .slice a1 x1.length c1] 24; simpa using this)
  clear SS1
  have SS3 : Hid (Sx w [(w.heap.size + 1 + 1, [.int .i64 p2, .slice a2 x2.length c2, .int .i64 n2, .slice b2 y2.length d2]), (w.heap.size + 1, [.int .i64 p1, .slice a1 x1.length c1]), (w.heap.size, [.int .i64 p0, .slice a0 x0.length c0])] [] (((w.alloc (.cells #[.int .i64 p0, .slice a0 x0.length c0] 24)).alloc (.cells #[.int .i64 p1, .slice a1 x1.length c1] 24)).alloc (.cells #[.int .i64 p2, .slice a2 x2.length c2, .int .i64 n2, .slice b2 y2.length d2] 46))) := Lib.hid (by have := SS2.out.made [.int .i64 p2, .slice a2 x2.length c2, .int .i64 n2, .slice b2 y2.length d2] 46; simpa using this)
  clear SS2
  have SS4 : Hid (Sx w [(w.heap.size + 1 + 1 + 1, [.int .i64 p3, .slice a3 x3.length c3, .int .i64 n3, .slice b3 y3.length d3]), (w.heap.size + 1 + 1, [.int .i64 p2, .slice a2 x2.length c2, .int .i64 n2, .slice b2 y2.length d2]), (w.heap.size + 1, [.int .i64 p1, .slice a1 x1.length c1]), (w.heap.size, [.int .i64 p0, .slice a0 x0.length c0])] [] ((((w.alloc (.cells #[.int .i64 p0, .slice a0 x0.length c0] 24)).alloc (.cells #[.int .i64 p1, .slice a1 x1.length c1] 24)).alloc (.cells #[.int .i64 p2, .slice a2 x2.length c2, .int .i64 n2, .slice b2 y2.length d2] 46)).alloc (.cells #[.int .i64 p3, .slice a3 x3.length c3, .int .i64 n3, .slice b3 y3.length d3] 46))) := Lib.hid (by have := SS3.out.made [.int .i64 p3, .slice a3 x3.length c3, .int .i64 n3, .slice b3 y3.length d3] 46; simpa using this)
  clear SS3
  obtain ⟨w1, hw1⟩ : ∃ z, z = ((((w.alloc (.cells #[.int .i64 p0, .slice a0 x0.length c0] 24)).alloc (.cells #[.int .i64 p1, .slice a1 x1.length c1] 24)).alloc (.cells #[.int .i64 p2, .slice a2 x2.length c2, .int .i64 n2, .slice b2 y2.length d2] 46)).alloc (.cells #[.int .i64 p3, .slice a3 x3.length c3, .int .i64 n3, .slice b3 y3.length d3] 46)) := ⟨_, rfl⟩
  have S1 : Hid (Sx w [(w.heap.size + 1 + 1 + 1, [.int .i64 p3, .slice a3 x3.length c3, .int .i64 n3, .slice b3 y3.length d3]), (w.heap.size + 1 + 1, [.int .i64 p2, .slice a2 x2.length c2, .int .i64 n2, .slice b2 y2.length d2]), (w.heap.size + 1, [.int .i64 p1, .slice a1 x1.length c1]), (w.heap.size, [.int .i64 p0, .slice a0 x0.length c0])] [] w1) := Lib.hid (by rw [hw1]; exact SS4.out)
  have Z1 : Hid (w1.heap.size = w.heap.size + 4) := Lib.hid (by rw [hw1]; simp)
  have Hw1 := Lib.hid hw1
  clear hw1 SS4
  go_enter Try.func12, Try.ntmps12
  go_wp2_with fail
  rw [← Hw1.out]
  refine (szgr_any p0 a0 x0.length c0 1048576 _ HM0.out (by omega) (by omega)).mono ?_
  rintro e w2 ⟨r0, rfl, hb, hres⟩
  have S2 := Lib.hid (S1.out.on hb)
  clear S1
  have Z2 : Hid (w1.heap.size ≤ w2.heap.size) := Lib.hid (hb.size)
  clear hb
  rcases hres with rfl | ⟨ra0, rb0, s0⟩
  · go_wp2
    go_ret
    exact ⟨rfl, S2.out.be⟩
  have rc0 : r0 ≤ 1048576 := by omega
  have qH1_0 := (S2.out.bx _ (.tail _ (.tail _ (.head _)))).cell 0
  have qH1_1 := (S2.out.bx _ (.tail _ (.tail _ (.head _)))).cell 1
  simp at qH1_0 qH1_1
  go_wp2_with fail
  refine (szgr_any p1 a1 x1.length c1 r0 _ HM1.out (by omega) (by omega)).mono ?_
  rintro e w3 ⟨r1, rfl, hb, hres⟩
  clear qH1_0 qH1_1
  have S3 := Lib.hid (S2.out.on hb)
  clear S2
  have Z3 : Hid (w2.heap.size ≤ w3.heap.size) := Lib.hid (hb.size)
  clear hb
  rcases hres with rfl | ⟨ra1, rb1, s1⟩
  · go_wp2
    go_ret
    exact ⟨rfl, S3.out.be⟩
  have rc1 : r1 ≤ 1048576 := by omega
  have qH2_0 := (S3.out.bx _ (.tail _ (.head _))).cell 0
  have qH2_1 := (S3.out.bx _ (.tail _ (.head _))).cell 1
  have qH2_2 := (S3.out.bx _ (.tail _ (.head _))).cell 2
  have qH2_3 := (S3.out.bx _ (.tail _ (.head _))).cell 3
  simp at qH2_0 qH2_1 qH2_2 qH2_3
  go_wp2_with fail
  refine (sztr_any p2 n2 a2 b2 x2.length c2 y2.length d2 r1 _ HM2.out HO2.out (by omega) (by omega)).mono ?_
  rintro e w4 ⟨r2, rfl, hb, hres⟩
  clear qH2_0 qH2_1 qH2_2 qH2_3
  have S4 := Lib.hid (S3.out.on hb)
  clear S3
  have Z4 : Hid (w3.heap.size ≤ w4.heap.size) := Lib.hid (hb.size)
  clear hb
  rcases hres with rfl | ⟨ra2, rb2, s2, t2⟩
  · go_wp2
    go_ret
    exact ⟨rfl, S4.out.be⟩
  have rc2 : r2 ≤ 1048576 := by omega
  have qH3_0 := (S4.out.bx _ (.head _)).cell 0
  have qH3_1 := (S4.out.bx _ (.head _)).cell 1
  have qH3_2 := (S4.out.bx _ (.head _)).cell 2
  have qH3_3 := (S4.out.bx _ (.head _)).cell 3
  simp at qH3_0 qH3_1 qH3_2 qH3_3
  go_wp2_with fail
  refine (sztr_any p3 n3 a3 b3 x3.length c3 y3.length d3 r2 _ HM3.out HO3.out (by omega) (by omega)).mono ?_
  rintro e w5 ⟨r3, rfl, hb, hres⟩
  clear qH3_0 qH3_1 qH3_2 qH3_3
  have S5 := Lib.hid (S4.out.on hb)
  clear S4
  have Z5 : Hid (w4.heap.size ≤ w5.heap.size) := Lib.hid (hb.size)
  clear hb
  rcases hres with rfl | ⟨ra3, rb3, s3, t3⟩
  · go_wp2
    go_ret
    exact ⟨rfl, S5.out.be⟩
  have rc3 : r3 ≤ 1048576 := by omega
  go_wp2_with fail
  apply wp_region_H (Z := List Cp × Option (Nat × List Value)) (S := fun k => k == 1 || k == 3 || k == 5 || k == 7 || k == 8) (C := fun z w' => Hid (Zx w5 z.1 z.2 w')) [0, 2, 4, 6] ([], none)
  · kernel_rfl
  · kernel_rfl
  · kernel_rfl
  · exact ⟨rfl, rfl, rfl, rfl, trivial⟩
  · rfl
  · decide
  · exact Lib.hid (Zx.start (Below.refl _ _).drew)
  · intro z
    dsimp only [pickL, nthO]
    go_big_quiet_want
    go_big_quiet_op
    refine ⟨.agg #[.int .i64 p0, .slice a0 x0.length c0], fun w' hw' => ?_, ?_⟩
    · have q9 := (S5.out.on hw'.out.be).bx _ (.tail _ (.tail _ (.tail _ (.head _))))
      have q0 := q9.cell 0
      have q1 := q9.cell 1
      simp at q0 q1
      simp [go_sem, q0, q1]
    go_big_quiet_on
    go_big_quiet_want
    go_big_quiet_op
    refine ⟨.agg #[.int .i64 p1, .slice a1 x1.length c1], fun w' hw' => ?_, ?_⟩
    · have q9 := (S5.out.on hw'.out.be).bx _ (.tail _ (.tail _ (.head _)))
      have q0 := q9.cell 0
      have q1 := q9.cell 1
      simp at q0 q1
      simp [go_sem, q0, q1]
    go_big_quiet_on
    go_big_quiet_want
    go_big_quiet_op
    refine ⟨.agg #[.int .i64 p2, .slice a2 x2.length c2, .int .i64 n2, .slice b2 y2.length d2], fun w' hw' => ?_, ?_⟩
    · have q9 := (S5.out.on hw'.out.be).bx _ (.tail _ (.head _))
      have q0 := q9.cell 0
      have q1 := q9.cell 1
      have q2 := q9.cell 2
      have q3 := q9.cell 3
      simp at q0 q1 q2 q3
      simp [go_sem, q0, q1, q2, q3]
    go_big_quiet_on
    go_big_quiet_want
    go_big_quiet_op
    refine ⟨.agg #[.int .i64 p3, .slice a3 x3.length c3, .int .i64 n3, .slice b3 y3.length d3], fun w' hw' => ?_, ?_⟩
    · have q9 := (S5.out.on hw'.out.be).bx _ (.head _)
      have q0 := q9.cell 0
      have q1 := q9.cell 1
      have q2 := q9.cell 2
      have q3 := q9.cell 3
      simp at q0 q1 q2 q3
      simp [go_sem, q0, q1, q2, q3]
    go_big_quiet_on
    exact wpQuiet_nil rfl
  · skip
    refine wpAnyH_call (i := 1) (d := some 45) 16 #[.agg #[.int .i64 p0, .slice a0 x0.length c0]] rfl (by kernel_rfl) rfl rfl (by kernel_rfl) (fun _ => by kernel_rfl) fun waz0 hc => ?_
    refine (togr_any p0 a0 c0 x0 waz0 (HA0.out.on (S5.out.on hc.out.be).be) s0).mono ?_
    rintro e wbz0 ⟨vz0, rfl, oo, hb⟩
    refine ⟨_, rfl, ([.l waz0.heap.size wbz0.heap.size vz0 x0], none), Lib.hid (hc.out.add hb (Hl.mk1 oo) (Nat.le_refl _)), ?_⟩
    clear oo hb hc
    refine wpAnyH_call (i := 3) (d := some 47) 16 #[.agg #[.int .i64 p1, .slice a1 x1.length c1]] rfl (by kernel_rfl) rfl rfl (by kernel_rfl) (fun _ => by kernel_rfl) fun waz1 hc => ?_
    refine (togr_any p1 a1 c1 x1 waz1 (HA1.out.on (S5.out.on hc.out.be).be) s1).mono ?_
    rintro e wbz1 ⟨vz1, rfl, oo, hb⟩
    refine ⟨_, rfl, ([.l waz1.heap.size wbz1.heap.size vz1 x1, .l waz0.heap.size wbz0.heap.size vz0 x0], none), Lib.hid (hc.out.add hb (Hl.mk1 oo) (Nat.le_refl _)), ?_⟩
    clear oo hb hc
    refine wpAnyH_call (i := 5) (d := some 49) 40 #[.agg #[.int .i64 p2, .slice a2 x2.length c2, .int .i64 n2, .slice b2 y2.length d2]] rfl (by kernel_rfl) rfl rfl (by kernel_rfl) (fun _ => by kernel_rfl) fun waz2 hc => ?_
    refine (totr_any p2 n2 a2 b2 c2 d2 x2 y2 waz2 (HA2.out.on (S5.out.on hc.out.be).be) (HK2.out.on (S5.out.on hc.out.be).be) s2 t2).mono ?_
    rintro e wbz2 ⟨vz2, uz2, rfl, oo, hb⟩
    refine ⟨_, rfl, ([.p waz2.heap.size wbz2.heap.size vz2 uz2 x2 y2, .l waz1.heap.size wbz1.heap.size vz1 x1, .l waz0.heap.size wbz0.heap.size vz0 x0], none), Lib.hid (hc.out.add hb oo (Nat.le_refl _)), ?_⟩
    clear oo hb hc
    refine wpAnyH_call (i := 7) (d := some 51) 40 #[.agg #[.int .i64 p3, .slice a3 x3.length c3, .int .i64 n3, .slice b3 y3.length d3]] rfl (by kernel_rfl) rfl rfl (by kernel_rfl) (fun _ => by kernel_rfl) fun waz3 hc => ?_
    refine (totr_any p3 n3 a3 b3 c3 d3 x3 y3 waz3 (HA3.out.on (S5.out.on hc.out.be).be) (HK3.out.on (S5.out.on hc.out.be).be) s3 t3).mono ?_
    rintro e wbz3 ⟨vz3, uz3, rfl, oo, hb⟩
    refine ⟨_, rfl, ([.p waz3.heap.size wbz3.heap.size vz3 uz3 x3 y3, .p waz2.heap.size wbz2.heap.size vz2 uz2 x2 y2, .l waz1.heap.size wbz1.heap.size vz1 x1, .l waz0.heap.size wbz0.heap.size vz0 x0], none), Lib.hid (hc.out.add hb oo (Nat.le_refl _)), ?_⟩
    clear oo hb hc
    refine wpAnyH_call (i := 8) (d := some 52) 49 #[.agg #[.int .i64 p0, vz0], .agg #[.int .i64 p1, vz1], .agg #[.int .i64 p2, vz2, .int .i64 n2, uz2], .agg #[.int .i64 p3, vz3, .int .i64 n3, uz3]] rfl (by kernel_rfl) rfl rfl (by kernel_rfl) (fun _ => by kernel_rfl) fun wcz hc => ?_
    refine (sofr_any p0 p1 p2 n2 p3 n3 _ _ _ _ _ _ x0 x1 x2 y2 x3 y3 wcz (Ints.of_own (hc.out.ls _ (.tail _ (.tail _ (.tail _ (.head _))))).1 (small20 s0)) (Ints.of_own (hc.out.ls _ (.tail _ (.tail _ (.head _)))).1 (small20 s1)) (Ints.of_own (hc.out.ls _ (.tail _ (.head _))).1 (small20 s2)) (Ints.of_own (hc.out.ls _ (.head _)).1 (small20 s3)) (Ints.of_own (hc.out.ls _ (.tail _ (.head _))).2.1 (small20 t2)) (Ints.of_own (hc.out.ls _ (.head _)).2.1 (small20 t3)) IP0.out IP1.out IX0.out IX1.out).mono ?_
    rintro e wdz ⟨vz, rfl, oo, hb⟩
    try rw [HXS.out] at oo
    try rw [HBB.out]
    refine ⟨_, rfl, ([.l wcz.heap.size wdz.heap.size vz XS], none), Lib.hid (((hc.out.sub (L' := []) (fun _ m => (by cases m))).add hb (Hl.mk1 oo) (Nat.le_refl _))), ?_⟩
    clear hb oo hc
    refine wpAnyH_take (i := 9) (d := some 43) (.tuple #[vz, .bool BB]) rfl (by kernel_rfl) rfl rfl (by kernel_rfl) (by kernel_rfl) (by kernel_rfl) (fun _ => by kernel_rfl) ?_
    refine wpAnyH_take (i := 10) (d := some 53) (vz) rfl (by kernel_rfl) rfl rfl (by kernel_rfl) (by kernel_rfl) (by kernel_rfl) (fun _ => by kernel_rfl) ?_
    refine wpAnyH_take (i := 11) (d := some 54) (.bool BB) rfl (by kernel_rfl) rfl rfl (by kernel_rfl) (by kernel_rfl) (by kernel_rfl) (fun _ => by kernel_rfl) ?_
    refine wpAnyH_take (i := 12) (d := some 10) (vz) rfl (by kernel_rfl) rfl rfl (by kernel_rfl) (by kernel_rfl) (by kernel_rfl) (fun _ => by kernel_rfl) ?_
    refine wpAnyH_take (i := 13) (d := some 11) (.bool BB) rfl (by kernel_rfl) rfl rfl (by kernel_rfl) (by kernel_rfl) (by kernel_rfl) (fun _ => by kernel_rfl) ?_
    refine ⟨by kernel_rfl, fun w6 hz => ?_⟩
    simp only [Act.put, List.setIfInBounds_toArray, List.set_cons_zero, List.set_cons_succ]
    have S6 := Lib.hid (hz.out.fin0 S5.out)
    clear S5
    obtain ⟨Azr, Czr, ef⟩ := Own.form (S6.out.ls _ (.head _)).1
    subst ef
    have Z6 : Hid (wdz.heap.size ≤ w6.heap.size) := Lib.hid ((S6.out.ls _ (.head _)).size)
    have Z7 : Hid (w5.heap.size ≤ w6.heap.size) := Lib.hid (hz.out.be.size)
    clear hz
    have qH0_0 := (S6.out.bx _ (.tail _ (.tail _ (.tail _ (.head _))))).cell 0
    have qH0_1 := (S6.out.bx _ (.tail _ (.tail _ (.tail _ (.head _))))).cell 1
    simp at qH0_0 qH0_1
    go_wp2_with fail
    refine (togr_any p0 a0 c0 x0 _ (HA0.out.on S6.out.be) s0).mono ?_
    rintro e w7 ⟨v9, rfl, oo, hb⟩
    clear qH0_0 qH0_1
    have S7 := Lib.hid (S6.out.on hb)
    clear S6
    have hz := hb.size
    obtain ⟨Ax0, Cx0, ef⟩ := Own.form oo
    subst ef
    have S8 := Lib.hid (S7.out.add (Hl.mk1 oo))
    clear S7
    have Z8 : Hid (w6.heap.size ≤ w7.heap.size) := Lib.hid (hz)
    clear hb oo hz
    obtain ⟨w8, hw8⟩ : ∃ z, z = w7.alloc (.cells #[.int .i64 p0, .slice Ax0 x0.length Cx0] 27) := ⟨_, rfl⟩
    have S9 : Hid (Sx w [(w7.heap.size, [.int .i64 p0, .slice Ax0 x0.length Cx0]), (w.heap.size + 1 + 1 + 1, [.int .i64 p3, .slice a3 x3.length c3, .int .i64 n3, .slice b3 y3.length d3]), (w.heap.size + 1 + 1, [.int .i64 p2, .slice a2 x2.length c2, .int .i64 n2, .slice b2 y2.length d2]), (w.heap.size + 1, [.int .i64 p1, .slice a1 x1.length c1]), (w.heap.size, [.int .i64 p0, .slice a0 x0.length c0])] [.l w6.heap.size w7.heap.size (.slice Ax0 x0.length Cx0) x0, .l wcz.heap.size wdz.heap.size (.slice Azr XS.length Czr) XS] w8) := Lib.hid (by rw [hw8]; exact S8.out.made [.int .i64 p0, .slice Ax0 x0.length Cx0] _)
    clear S8
    have Z9 : Hid (w8.heap.size = w7.heap.size + 1) := Lib.hid (by rw [hw8]; simp)
    have Hw8 := Lib.hid hw8
    clear hw8
    have qH1_0 := (S9.out.bx _ (.tail _ (.tail _ (.tail _ (.head _))))).cell 0
    have qH1_1 := (S9.out.bx _ (.tail _ (.tail _ (.tail _ (.head _))))).cell 1
    simp at qH1_0 qH1_1
    rw [Hw8.out] at qH1_0 qH1_1
    go_wp2_with fail
    rw [← Hw8.out]
    refine (togr_any p1 a1 c1 x1 _ (HA1.out.on S9.out.be) s1).mono ?_
    rintro e w9 ⟨v9, rfl, oo, hb⟩
    clear qH1_0 qH1_1
    have S10 := Lib.hid (S9.out.on hb)
    clear S9
    have hz := hb.size
    obtain ⟨Ax1, Cx1, ef⟩ := Own.form oo
    subst ef
    have S11 := Lib.hid (S10.out.add (Hl.mk1 oo))
    clear S10
    have Z10 : Hid (w8.heap.size ≤ w9.heap.size) := Lib.hid (hz)
    clear hb oo hz
    obtain ⟨w10, hw10⟩ : ∃ z, z = w9.alloc (.cells #[.int .i64 p1, .slice Ax1 x1.length Cx1] 27) := ⟨_, rfl⟩
    have S12 : Hid (Sx w [(w9.heap.size, [.int .i64 p1, .slice Ax1 x1.length Cx1]), (w7.heap.size, [.int .i64 p0, .slice Ax0 x0.length Cx0]), (w.heap.size + 1 + 1 + 1, [.int .i64 p3, .slice a3 x3.length c3, .int .i64 n3, .slice b3 y3.length d3]), (w.heap.size + 1 + 1, [.int .i64 p2, .slice a2 x2.length c2, .int .i64 n2, .slice b2 y2.length d2]), (w.heap.size + 1, [.int .i64 p1, .slice a1 x1.length c1]), (w.heap.size, [.int .i64 p0, .slice a0 x0.length c0])] [.l w8.heap.size w9.heap.size (.slice Ax1 x1.length Cx1) x1, .l w6.heap.size w7.heap.size (.slice Ax0 x0.length Cx0) x0, .l wcz.heap.size wdz.heap.size (.slice Azr XS.length Czr) XS] w10) := Lib.hid (by rw [hw10]; exact S11.out.made [.int .i64 p1, .slice Ax1 x1.length Cx1] _)
    clear S11
    have Z11 : Hid (w10.heap.size = w9.heap.size + 1) := Lib.hid (by rw [hw10]; simp)
    have Hw10 := Lib.hid hw10
    clear hw10
    have qH2_0 := (S12.out.bx _ (.tail _ (.tail _ (.tail _ (.head _))))).cell 0
    have qH2_1 := (S12.out.bx _ (.tail _ (.tail _ (.tail _ (.head _))))).cell 1
    have qH2_2 := (S12.out.bx _ (.tail _ (.tail _ (.tail _ (.head _))))).cell 2
    have qH2_3 := (S12.out.bx _ (.tail _ (.tail _ (.tail _ (.head _))))).cell 3
    simp at qH2_0 qH2_1 qH2_2 qH2_3
    rw [Hw10.out] at qH2_0 qH2_1 qH2_2 qH2_3
    go_wp2_with fail
    rw [← Hw10.out]
    refine (totr_any p2 n2 a2 b2 c2 d2 x2 y2 _ (HA2.out.on S12.out.be) (HK2.out.on S12.out.be) s2 t2).mono ?_
    rintro e w11 ⟨v9, u9, rfl, oo, hb⟩
    clear qH2_0 qH2_1 qH2_2 qH2_3
    have S13 := Lib.hid (S12.out.on hb)
    clear S12
    have hz := hb.size
    obtain ⟨Ax2, Cx2, ef⟩ := Own.form oo.1
    obtain ⟨Bx2, Dx2, eg⟩ := Own.form oo.2.1
    subst ef eg
    have S14 := Lib.hid (S13.out.add oo)
    clear S13
    have Z12 : Hid (w10.heap.size ≤ w11.heap.size) := Lib.hid (hz)
    clear hb oo hz
    obtain ⟨w12, hw12⟩ : ∃ z, z = w11.alloc (.cells #[.int .i64 p2, .slice Ax2 x2.length Cx2, .int .i64 n2, .slice Bx2 y2.length Dx2] 50) := ⟨_, rfl⟩
    have S15 : Hid (Sx w [(w11.heap.size, [.int .i64 p2, .slice Ax2 x2.length Cx2, .int .i64 n2, .slice Bx2 y2.length Dx2]), (w9.heap.size, [.int .i64 p1, .slice Ax1 x1.length Cx1]), (w7.heap.size, [.int .i64 p0, .slice Ax0 x0.length Cx0]), (w.heap.size + 1 + 1 + 1, [.int .i64 p3, .slice a3 x3.length c3, .int .i64 n3, .slice b3 y3.length d3]), (w.heap.size + 1 + 1, [.int .i64 p2, .slice a2 x2.length c2, .int .i64 n2, .slice b2 y2.length d2]), (w.heap.size + 1, [.int .i64 p1, .slice a1 x1.length c1]), (w.heap.size, [.int .i64 p0, .slice a0 x0.length c0])] [.p w10.heap.size w11.heap.size (.slice Ax2 x2.length Cx2) (.slice Bx2 y2.length Dx2) x2 y2, .l w8.heap.size w9.heap.size (.slice Ax1 x1.length Cx1) x1, .l w6.heap.size w7.heap.size (.slice Ax0 x0.length Cx0) x0, .l wcz.heap.size wdz.heap.size (.slice Azr XS.length Czr) XS] w12) := Lib.hid (by rw [hw12]; exact S14.out.made [.int .i64 p2, .slice Ax2 x2.length Cx2, .int .i64 n2, .slice Bx2 y2.length Dx2] _)
    clear S14
    have Z13 : Hid (w12.heap.size = w11.heap.size + 1) := Lib.hid (by rw [hw12]; simp)
    have Hw12 := Lib.hid hw12
    clear hw12
    have qH3_0 := (S15.out.bx _ (.tail _ (.tail _ (.tail _ (.head _))))).cell 0
    have qH3_1 := (S15.out.bx _ (.tail _ (.tail _ (.tail _ (.head _))))).cell 1
    have qH3_2 := (S15.out.bx _ (.tail _ (.tail _ (.tail _ (.head _))))).cell 2
    have qH3_3 := (S15.out.bx _ (.tail _ (.tail _ (.tail _ (.head _))))).cell 3
    simp at qH3_0 qH3_1 qH3_2 qH3_3
    rw [Hw12.out] at qH3_0 qH3_1 qH3_2 qH3_3
    go_wp2_with fail
    rw [← Hw12.out]
    refine (totr_any p3 n3 a3 b3 c3 d3 x3 y3 _ (HA3.out.on S15.out.be) (HK3.out.on S15.out.be) s3 t3).mono ?_
    rintro e w13 ⟨v9, u9, rfl, oo, hb⟩
    clear qH3_0 qH3_1 qH3_2 qH3_3
    have S16 := Lib.hid (S15.out.on hb)
    clear S15
    have hz := hb.size
    obtain ⟨Ax3, Cx3, ef⟩ := Own.form oo.1
    obtain ⟨Bx3, Dx3, eg⟩ := Own.form oo.2.1
    subst ef eg
    have S17 := Lib.hid (S16.out.add oo)
    clear S16
    have Z14 : Hid (w12.heap.size ≤ w13.heap.size) := Lib.hid (hz)
    clear hb oo hz
    obtain ⟨w14, hw14⟩ : ∃ z, z = w13.alloc (.cells #[.int .i64 p3, .slice Ax3 x3.length Cx3, .int .i64 n3, .slice Bx3 y3.length Dx3] 50) := ⟨_, rfl⟩
    have S18 : Hid (Sx w [(w13.heap.size, [.int .i64 p3, .slice Ax3 x3.length Cx3, .int .i64 n3, .slice Bx3 y3.length Dx3]), (w11.heap.size, [.int .i64 p2, .slice Ax2 x2.length Cx2, .int .i64 n2, .slice Bx2 y2.length Dx2]), (w9.heap.size, [.int .i64 p1, .slice Ax1 x1.length Cx1]), (w7.heap.size, [.int .i64 p0, .slice Ax0 x0.length Cx0]), (w.heap.size + 1 + 1 + 1, [.int .i64 p3, .slice a3 x3.length c3, .int .i64 n3, .slice b3 y3.length d3]), (w.heap.size + 1 + 1, [.int .i64 p2, .slice a2 x2.length c2, .int .i64 n2, .slice b2 y2.length d2]), (w.heap.size + 1, [.int .i64 p1, .slice a1 x1.length c1]), (w.heap.size, [.int .i64 p0, .slice a0 x0.length c0])] [.p w12.heap.size w13.heap.size (.slice Ax3 x3.length Cx3) (.slice Bx3 y3.length Dx3) x3 y3, .p w10.heap.size w11.heap.size (.slice Ax2 x2.length Cx2) (.slice Bx2 y2.length Dx2) x2 y2, .l w8.heap.size w9.heap.size (.slice Ax1 x1.length Cx1) x1, .l w6.heap.size w7.heap.size (.slice Ax0 x0.length Cx0) x0, .l wcz.heap.size wdz.heap.size (.slice Azr XS.length Czr) XS] w14) := Lib.hid (by rw [hw14]; exact S17.out.made [.int .i64 p3, .slice Ax3 x3.length Cx3, .int .i64 n3, .slice Bx3 y3.length Dx3] _)
    clear S17
    have Z15 : Hid (w14.heap.size = w13.heap.size + 1) := Lib.hid (by rw [hw14]; simp)
    have Hw14 := Lib.hid hw14
    clear hw14
    have qx0_0 := (S18.out.bx _ (.tail _ (.tail _ (.tail _ (.head _))))).cell 0
    have qx0_1 := (S18.out.bx _ (.tail _ (.tail _ (.tail _ (.head _))))).cell 1
    have qx1_0 := (S18.out.bx _ (.tail _ (.tail _ (.head _)))).cell 0
    have qx1_1 := (S18.out.bx _ (.tail _ (.tail _ (.head _)))).cell 1
    have qx2_0 := (S18.out.bx _ (.tail _ (.head _))).cell 0
    have qx2_1 := (S18.out.bx _ (.tail _ (.head _))).cell 1
    have qx2_2 := (S18.out.bx _ (.tail _ (.head _))).cell 2
    have qx2_3 := (S18.out.bx _ (.tail _ (.head _))).cell 3
    have qx3_0 := (S18.out.bx _ (.head _)).cell 0
    have qx3_1 := (S18.out.bx _ (.head _)).cell 1
    have qx3_2 := (S18.out.bx _ (.head _)).cell 2
    have qx3_3 := (S18.out.bx _ (.head _)).cell 3
    simp at qx0_0 qx0_1 qx1_0 qx1_1 qx2_0 qx2_1 qx2_2 qx2_3 qx3_0 qx3_1 qx3_2 qx3_3
    rw [Hw14.out] at qx0_0 qx0_1 qx1_0 qx1_1 qx2_0 qx2_1 qx2_2 qx2_3 qx3_0 qx3_1 qx3_2 qx3_3
    go_wp2_with fail
    rw [← Hw14.out]
    refine (iofr_any p0 p1 p2 n2 p3 n3 _ _ _ _ _ _ x0 x1 x2 y2 x3 y3 _ (Ints.of_own (S18.out.ls _ (.tail _ (.tail _ (.tail _ (.head _))))).1 (small20 s0)) (Ints.of_own (S18.out.ls _ (.tail _ (.tail _ (.head _)))).1 (small20 s1)) (Ints.of_own (S18.out.ls _ (.tail _ (.head _))).1 (small20 s2)) (Ints.of_own (S18.out.ls _ (.head _)).1 (small20 s3)) (Ints.of_own (S18.out.ls _ (.tail _ (.head _))).2.1 (small20 t2)) (Ints.of_own (S18.out.ls _ (.head _)).2.1 (small20 t3)) (S18.out.ls _ (.tail _ (.head _))).2.1.capped (S18.out.ls _ (.head _)).2.1.capped IX0.out IX1.out).mono ?_
    rintro e w15 ⟨v9, rfl, oo, hb⟩
    clear qx0_0 qx0_1 qx1_0 qx1_1 qx2_0 qx2_1 qx2_2 qx2_3 qx3_0 qx3_1 qx3_2 qx3_3
    try rw [HXS.out] at oo
    try rw [HBB.out]
    have S19 := Lib.hid (S18.out.on hb)
    clear S18
    have hz := hb.size
    obtain ⟨Agr, Cgr, ef⟩ := Own.form oo
    subst ef
    have S20 := Lib.hid (S19.out.add (Hl.mk1 oo))
    clear S19
    clear oo
    have Z16 : Hid (w14.heap.size ≤ w15.heap.size) := Lib.hid (hz)
    clear hb hz
    have hbb : (BB != BB) = false := by simp
    go_wp2_with fail
    refine (eqI_any _ _ XS _ (Ints.of_own (S20.out.ls _ (.head _)).1 HXL.out) (Ints.of_own (S20.out.ls _ (.tail _ (.tail _ (.tail _ (.tail _ (.tail _ (.head _))))))).1 HXL.out)).mono ?_
    rintro e w16 ⟨rfl, hb⟩
    have S21 := Lib.hid (S20.out.on hb)
    clear S20
    have Z17 : Hid (w15.heap.size ≤ w16.heap.size) := Lib.hid (hb.size)
    clear hb
    go_wp2_with fail
    apply wp_region_H (Z := List Cp × Option (Nat × List Value)) (S := fun k => k == 2 || k == 3 || k == 4) (C := fun z w' => Hid (Zx w16 z.1 z.2 w')) [0, 1] ([], none)
    · kernel_rfl
    · kernel_rfl
    · kernel_rfl
    · exact ⟨rfl, rfl, trivial⟩
    · rfl
    · decide
    · exact Lib.hid (Zx.start (Below.refl _ _).drew)
    · intro z
      dsimp only [pickL, nthO]
      go_big_quiet_want
      go_big_quiet_op
      refine ⟨.agg #[.int .i64 p0, .slice Ax0 x0.length Cx0], fun w' hw' => ?_, ?_⟩
      · have q9 := (S21.out.on hw'.out.be).bx _ (.tail _ (.tail _ (.tail _ (.head _))))
        have q0 := q9.cell 0
        have q1 := q9.cell 1
        simp at q0 q1
        simp [go_sem, q0, q1]
      go_big_quiet_on
      go_big_quiet_want
      go_big_quiet_op
      refine ⟨.agg #[.int .i64 p0, .slice a0 x0.length c0], fun w' hw' => ?_, ?_⟩
      · have q9 := (S21.out.on hw'.out.be).bx _ (.tail _ (.tail _ (.tail _ (.tail _ (.tail _ (.tail _ (.tail _ (.head _))))))))
        have q0 := q9.cell 0
        have q1 := q9.cell 1
        simp at q0 q1
        simp [go_sem, q0, q1]
      go_big_quiet_on
      exact wpQuiet_nil rfl
    · skip
      refine wpAnyH_call (i := 2) (d := some 82) 16 #[.agg #[.int .i64 p0, .slice a0 x0.length c0]] rfl (by kernel_rfl) rfl rfl (by kernel_rfl) (fun _ => by kernel_rfl) fun wae0 hc => ?_
      refine (togr_any p0 a0 c0 x0 wae0 (HA0.out.on (S21.out.on hc.out.be).be) s0).mono ?_
      rintro e wbe0 ⟨ve0, rfl, oo, hb⟩
      refine ⟨_, rfl, ([.l wae0.heap.size wbe0.heap.size ve0 x0], none), Lib.hid (hc.out.add hb (Hl.mk1 oo) (Nat.le_refl _)), ?_⟩
      clear oo hb hc
      refine wpAnyH_call (i := 3) (d := some 83) 18 #[.agg #[.int .i64 p0, .slice Ax0 x0.length Cx0], .agg #[.int .i64 p0, ve0]] rfl (by kernel_rfl) rfl rfl (by kernel_rfl) (fun _ => by kernel_rfl) fun wc hc => ?_
      refine (eqgr_any p0 _ _ x0 wc (Ints.of_own ((Lib.hid (S21.out.on hc.out.be)).out.ls _ (.tail _ (.tail _ (.tail _ (.tail _ (.head _)))))).1 (small20 s0)) (Ints.of_own (hc.out.ls _ (.head _)).1 (small20 s0))).mono ?_
      rintro e wd ⟨rfl, hb⟩
      refine ⟨_, rfl, ([], none), Lib.hid ((hc.out.on hb).sub (fun _ m => (by cases m))), ?_⟩
      clear hb hc
      refine wpAnyH_special (i := 4) (d := some 84) rfl (by kernel_rfl) rfl rfl (by kernel_rfl) fun wy hcy => ⟨.bool false, wy, ([], none), .inl (by kernel_rfl), hcy, ?_⟩
      refine ⟨by kernel_rfl, fun w17 hz => ?_⟩
      simp only [Act.put, List.setIfInBounds_toArray, List.set_cons_zero, List.set_cons_succ]
      have S22 := Lib.hid (S21.out.on hz.out.be)
      clear S21
      have Z18 : Hid (w16.heap.size ≤ w17.heap.size) := Lib.hid (hz.out.be.size)
      clear hz hcy
      go_wp2_with fail
      apply wp_region_H (Z := List Cp × Option (Nat × List Value)) (S := fun k => k == 2 || k == 3 || k == 4) (C := fun z w' => Hid (Zx w17 z.1 z.2 w')) [0, 1] ([], none)
      · kernel_rfl
      · kernel_rfl
      · kernel_rfl
      · exact ⟨rfl, rfl, trivial⟩
      · rfl
      · decide
      · exact Lib.hid (Zx.start (Below.refl _ _).drew)
      · intro z
        dsimp only [pickL, nthO]
        go_big_quiet_want
        go_big_quiet_op
        refine ⟨.agg #[.int .i64 p1, .slice Ax1 x1.length Cx1], fun w' hw' => ?_, ?_⟩
        · have q9 := (S22.out.on hw'.out.be).bx _ (.tail _ (.tail _ (.head _)))
          have q0 := q9.cell 0
          have q1 := q9.cell 1
          simp at q0 q1
          simp [go_sem, q0, q1]
        go_big_quiet_on
        go_big_quiet_want
        go_big_quiet_op
        refine ⟨.agg #[.int .i64 p1, .slice a1 x1.length c1], fun w' hw' => ?_, ?_⟩
        · have q9 := (S22.out.on hw'.out.be).bx _ (.tail _ (.tail _ (.tail _ (.tail _ (.tail _ (.tail _ (.head _)))))))
          have q0 := q9.cell 0
          have q1 := q9.cell 1
          simp at q0 q1
          simp [go_sem, q0, q1]
        go_big_quiet_on
        exact wpQuiet_nil rfl
      · skip
        refine wpAnyH_call (i := 2) (d := some 87) 16 #[.agg #[.int .i64 p1, .slice a1 x1.length c1]] rfl (by kernel_rfl) rfl rfl (by kernel_rfl) (fun _ => by kernel_rfl) fun wae0 hc => ?_
        refine (togr_any p1 a1 c1 x1 wae0 (HA1.out.on (S22.out.on hc.out.be).be) s1).mono ?_
        rintro e wbe0 ⟨ve0, rfl, oo, hb⟩
        refine ⟨_, rfl, ([.l wae0.heap.size wbe0.heap.size ve0 x1], none), Lib.hid (hc.out.add hb (Hl.mk1 oo) (Nat.le_refl _)), ?_⟩
        clear oo hb hc
        refine wpAnyH_call (i := 3) (d := some 88) 18 #[.agg #[.int .i64 p1, .slice Ax1 x1.length Cx1], .agg #[.int .i64 p1, ve0]] rfl (by kernel_rfl) rfl rfl (by kernel_rfl) (fun _ => by kernel_rfl) fun wc hc => ?_
        refine (eqgr_any p1 _ _ x1 wc (Ints.of_own ((Lib.hid (S22.out.on hc.out.be)).out.ls _ (.tail _ (.tail _ (.tail _ (.head _))))).1 (small20 s1)) (Ints.of_own (hc.out.ls _ (.head _)).1 (small20 s1))).mono ?_
        rintro e wd ⟨rfl, hb⟩
        refine ⟨_, rfl, ([], none), Lib.hid ((hc.out.on hb).sub (fun _ m => (by cases m))), ?_⟩
        clear hb hc
        refine wpAnyH_special (i := 4) (d := some 89) rfl (by kernel_rfl) rfl rfl (by kernel_rfl) fun wy hcy => ⟨.bool false, wy, ([], none), .inl (by kernel_rfl), hcy, ?_⟩
        refine ⟨by kernel_rfl, fun w18 hz => ?_⟩
        simp only [Act.put, List.setIfInBounds_toArray, List.set_cons_zero, List.set_cons_succ]
        have S23 := Lib.hid (S22.out.on hz.out.be)
        clear S22
        have Z19 : Hid (w17.heap.size ≤ w18.heap.size) := Lib.hid (hz.out.be.size)
        clear hz hcy
        go_wp2_with fail
        apply wp_region_H (Z := List Cp × Option (Nat × List Value)) (S := fun k => k == 2 || k == 3 || k == 4) (C := fun z w' => Hid (Zx w18 z.1 z.2 w')) [0, 1] ([], none)
        · kernel_rfl
        · kernel_rfl
        · kernel_rfl
        · exact ⟨rfl, rfl, trivial⟩
        · rfl
        · decide
        · exact Lib.hid (Zx.start (Below.refl _ _).drew)
        · intro z
          dsimp only [pickL, nthO]
          go_big_quiet_want
          go_big_quiet_op
          refine ⟨.agg #[.int .i64 p2, .slice Ax2 x2.length Cx2, .int .i64 n2, .slice Bx2 y2.length Dx2], fun w' hw' => ?_, ?_⟩
          · have q9 := (S23.out.on hw'.out.be).bx _ (.tail _ (.head _))
            have q0 := q9.cell 0
            have q1 := q9.cell 1
            have q2 := q9.cell 2
            have q3 := q9.cell 3
            simp at q0 q1 q2 q3
            simp [go_sem, q0, q1, q2, q3]
          go_big_quiet_on
          go_big_quiet_want
          go_big_quiet_op
          refine ⟨.agg #[.int .i64 p2, .slice a2 x2.length c2, .int .i64 n2, .slice b2 y2.length d2], fun w' hw' => ?_, ?_⟩
          · have q9 := (S23.out.on hw'.out.be).bx _ (.tail _ (.tail _ (.tail _ (.tail _ (.tail _ (.head _))))))
            have q0 := q9.cell 0
            have q1 := q9.cell 1
            have q2 := q9.cell 2
            have q3 := q9.cell 3
            simp at q0 q1 q2 q3
            simp [go_sem, q0, q1, q2, q3]
          go_big_quiet_on
          exact wpQuiet_nil rfl
        · skip
          refine wpAnyH_call (i := 2) (d := some 92) 40 #[.agg #[.int .i64 p2, .slice a2 x2.length c2, .int .i64 n2, .slice b2 y2.length d2]] rfl (by kernel_rfl) rfl rfl (by kernel_rfl) (fun _ => by kernel_rfl) fun wae0 hc => ?_
          refine (totr_any p2 n2 a2 b2 c2 d2 x2 y2 wae0 (HA2.out.on (S23.out.on hc.out.be).be) (HK2.out.on (S23.out.on hc.out.be).be) s2 t2).mono ?_
          rintro e wbe0 ⟨ve0, ue0, rfl, oo, hb⟩
          refine ⟨_, rfl, ([.p wae0.heap.size wbe0.heap.size ve0 ue0 x2 y2], none), Lib.hid (hc.out.add hb oo (Nat.le_refl _)), ?_⟩
          clear oo hb hc
          refine wpAnyH_call (i := 3) (d := some 93) 42 #[.agg #[.int .i64 p2, .slice Ax2 x2.length Cx2, .int .i64 n2, .slice Bx2 y2.length Dx2], .agg #[.int .i64 p2, ve0, .int .i64 n2, ue0]] rfl (by kernel_rfl) rfl rfl (by kernel_rfl) (fun _ => by kernel_rfl) fun wc hc => ?_
          refine (eqtr_any p2 n2 _ _ _ _ x2 y2 wc (Ints.of_own ((Lib.hid (S23.out.on hc.out.be)).out.ls _ (.tail _ (.tail _ (.head _)))).1 (small20 s2)) (Ints.of_own (hc.out.ls _ (.head _)).1 (small20 s2)) (Ints.of_own ((Lib.hid (S23.out.on hc.out.be)).out.ls _ (.tail _ (.tail _ (.head _)))).2.1 (small20 t2)) (Ints.of_own (hc.out.ls _ (.head _)).2.1 (small20 t2))).mono ?_
          rintro e wd ⟨rfl, hb⟩
          refine ⟨_, rfl, ([], none), Lib.hid ((hc.out.on hb).sub (fun _ m => (by cases m))), ?_⟩
          clear hb hc
          refine wpAnyH_special (i := 4) (d := some 94) rfl (by kernel_rfl) rfl rfl (by kernel_rfl) fun wy hcy => ⟨.bool false, wy, ([], none), .inl (by kernel_rfl), hcy, ?_⟩
          refine ⟨by kernel_rfl, fun w19 hz => ?_⟩
          simp only [Act.put, List.setIfInBounds_toArray, List.set_cons_zero, List.set_cons_succ]
          have S24 := Lib.hid (S23.out.on hz.out.be)
          clear S23
          have Z20 : Hid (w18.heap.size ≤ w19.heap.size) := Lib.hid (hz.out.be.size)
          clear hz hcy
          go_wp2_with fail
          apply wp_region_H (Z := List Cp × Option (Nat × List Value)) (S := fun k => k == 2 || k == 3 || k == 4) (C := fun z w' => Hid (Zx w19 z.1 z.2 w')) [0, 1] ([], none)
          · kernel_rfl
          · kernel_rfl
          · kernel_rfl
          · exact ⟨rfl, rfl, trivial⟩
          · rfl
          · decide
          · exact Lib.hid (Zx.start (Below.refl _ _).drew)
          · intro z
            dsimp only [pickL, nthO]
            go_big_quiet_want
            go_big_quiet_op
            refine ⟨.agg #[.int .i64 p3, .slice Ax3 x3.length Cx3, .int .i64 n3, .slice Bx3 y3.length Dx3], fun w' hw' => ?_, ?_⟩
            · have q9 := (S24.out.on hw'.out.be).bx _ (.head _)
              have q0 := q9.cell 0
              have q1 := q9.cell 1
              have q2 := q9.cell 2
              have q3 := q9.cell 3
              simp at q0 q1 q2 q3
              simp [go_sem, q0, q1, q2, q3]
            go_big_quiet_on
            go_big_quiet_want
            go_big_quiet_op
            refine ⟨.agg #[.int .i64 p3, .slice a3 x3.length c3, .int .i64 n3, .slice b3 y3.length d3], fun w' hw' => ?_, ?_⟩
            · have q9 := (S24.out.on hw'.out.be).bx _ (.tail _ (.tail _ (.tail _ (.tail _ (.head _)))))
              have q0 := q9.cell 0
              have q1 := q9.cell 1
              have q2 := q9.cell 2
              have q3 := q9.cell 3
              simp at q0 q1 q2 q3
              simp [go_sem, q0, q1, q2, q3]
            go_big_quiet_on
            exact wpQuiet_nil rfl
          · skip
            refine wpAnyH_call (i := 2) (d := some 97) 40 #[.agg #[.int .i64 p3, .slice a3 x3.length c3, .int .i64 n3, .slice b3 y3.length d3]] rfl (by kernel_rfl) rfl rfl (by kernel_rfl) (fun _ => by kernel_rfl) fun wae0 hc => ?_
            refine (totr_any p3 n3 a3 b3 c3 d3 x3 y3 wae0 (HA3.out.on (S24.out.on hc.out.be).be) (HK3.out.on (S24.out.on hc.out.be).be) s3 t3).mono ?_
            rintro e wbe0 ⟨ve0, ue0, rfl, oo, hb⟩
            refine ⟨_, rfl, ([.p wae0.heap.size wbe0.heap.size ve0 ue0 x3 y3], none), Lib.hid (hc.out.add hb oo (Nat.le_refl _)), ?_⟩
            clear oo hb hc
            refine wpAnyH_call (i := 3) (d := some 98) 42 #[.agg #[.int .i64 p3, .slice Ax3 x3.length Cx3, .int .i64 n3, .slice Bx3 y3.length Dx3], .agg #[.int .i64 p3, ve0, .int .i64 n3, ue0]] rfl (by kernel_rfl) rfl rfl (by kernel_rfl) (fun _ => by kernel_rfl) fun wc hc => ?_
            refine (eqtr_any p3 n3 _ _ _ _ x3 y3 wc (Ints.of_own ((Lib.hid (S24.out.on hc.out.be)).out.ls _ (.tail _ (.head _))).1 (small20 s3)) (Ints.of_own (hc.out.ls _ (.head _)).1 (small20 s3)) (Ints.of_own ((Lib.hid (S24.out.on hc.out.be)).out.ls _ (.tail _ (.head _))).2.1 (small20 t3)) (Ints.of_own (hc.out.ls _ (.head _)).2.1 (small20 t3))).mono ?_
            rintro e wd ⟨rfl, hb⟩
            refine ⟨_, rfl, ([], none), Lib.hid ((hc.out.on hb).sub (fun _ m => (by cases m))), ?_⟩
            clear hb hc
            refine wpAnyH_special (i := 4) (d := some 99) rfl (by kernel_rfl) rfl rfl (by kernel_rfl) fun wy hcy => ⟨.bool false, wy, ([], none), .inl (by kernel_rfl), hcy, ?_⟩
            refine ⟨by kernel_rfl, fun w20 hz => ?_⟩
            simp only [Act.put, List.setIfInBounds_toArray, List.set_cons_zero, List.set_cons_succ]
            have S25 := Lib.hid (S24.out.on hz.out.be)
            clear S24
            have Z21 : Hid (w19.heap.size ≤ w20.heap.size) := Lib.hid (hz.out.be.size)
            clear hz hcy
            have qx0_0 := (S25.out.bx _ (.tail _ (.tail _ (.tail _ (.head _))))).cell 0
            have qx0_1 := (S25.out.bx _ (.tail _ (.tail _ (.tail _ (.head _))))).cell 1
            simp at qx0_0 qx0_1
            go_wp2_with fail
            refine (mkgr_any p0 w6.heap.size w7.heap.size _ x0 1 _ (S25.out.ls _ (.tail _ (.tail _ (.tail _ (.tail _ (.head _)))))) (by omega) (by omega) (by omega)).mono ?_
            rintro e w21 ⟨rfl, hh, ho⟩
            clear qx0_0 qx0_1
            have S26 := Lib.hid (Sx.markAt (L1 := [.l w14.heap.size w15.heap.size (.slice Agr XS.length Cgr) XS, .p w12.heap.size w13.heap.size (.slice Ax3 x3.length Cx3) (.slice Bx3 y3.length Dx3) x3 y3, .p w10.heap.size w11.heap.size (.slice Ax2 x2.length Cx2) (.slice Bx2 y2.length Dx2) x2 y2, .l w8.heap.size w9.heap.size (.slice Ax1 x1.length Cx1) x1]) (L2 := [.l wcz.heap.size wdz.heap.size (.slice Azr XS.length Czr) XS]) (c := .l w6.heap.size w7.heap.size (.slice Ax0 x0.length Cx0) x0) (c' := .l w6.heap.size w7.heap.size (.slice Ax0 x0.length Cx0) (markTo x0 1 x0.length)) S25.out ho hh (by have := Z1.out; have := Z2.out; have := Z3.out; have := Z4.out; have := Z5.out; have := Z6.out; have := Z7.out; have := Z8.out; have := Z9.out; have := Z10.out; have := Z11.out; have := Z12.out; have := Z13.out; have := Z14.out; have := Z15.out; have := Z16.out; have := Z17.out; have := Z18.out; have := Z19.out; have := Z20.out; have := Z21.out; omega) (by have := Z1.out; have := Z2.out; have := Z3.out; have := Z4.out; have := Z5.out; have := Z6.out; have := Z7.out; have := Z8.out; have := Z9.out; have := Z10.out; have := Z11.out; have := Z12.out; have := Z13.out; have := Z14.out; have := Z15.out; have := Z16.out; have := Z17.out; have := Z18.out; have := Z19.out; have := Z20.out; have := Z21.out; omega) (all_cons (by show w13.heap.size < w6.heap.size ∨ w7.heap.size ≤ w13.heap.size; have := Z1.out; have := Z2.out; have := Z3.out; have := Z4.out; have := Z5.out; have := Z6.out; have := Z7.out; have := Z8.out; have := Z9.out; have := Z10.out; have := Z11.out; have := Z12.out; have := Z13.out; have := Z14.out; have := Z15.out; have := Z16.out; have := Z17.out; have := Z18.out; have := Z19.out; have := Z20.out; have := Z21.out; omega) (all_cons (by show w11.heap.size < w6.heap.size ∨ w7.heap.size ≤ w11.heap.size; have := Z1.out; have := Z2.out; have := Z3.out; have := Z4.out; have := Z5.out; have := Z6.out; have := Z7.out; have := Z8.out; have := Z9.out; have := Z10.out; have := Z11.out; have := Z12.out; have := Z13.out; have := Z14.out; have := Z15.out; have := Z16.out; have := Z17.out; have := Z18.out; have := Z19.out; have := Z20.out; have := Z21.out; omega) (all_cons (by show w9.heap.size < w6.heap.size ∨ w7.heap.size ≤ w9.heap.size; have := Z1.out; have := Z2.out; have := Z3.out; have := Z4.out; have := Z5.out; have := Z6.out; have := Z7.out; have := Z8.out; have := Z9.out; have := Z10.out; have := Z11.out; have := Z12.out; have := Z13.out; have := Z14.out; have := Z15.out; have := Z16.out; have := Z17.out; have := Z18.out; have := Z19.out; have := Z20.out; have := Z21.out; omega) (all_cons (by show w7.heap.size < w6.heap.size ∨ w7.heap.size ≤ w7.heap.size; have := Z1.out; have := Z2.out; have := Z3.out; have := Z4.out; have := Z5.out; have := Z6.out; have := Z7.out; have := Z8.out; have := Z9.out; have := Z10.out; have := Z11.out; have := Z12.out; have := Z13.out; have := Z14.out; have := Z15.out; have := Z16.out; have := Z17.out; have := Z18.out; have := Z19.out; have := Z20.out; have := Z21.out; omega) (all_cons (by show w.heap.size + 1 + 1 + 1 < w6.heap.size ∨ w7.heap.size ≤ w.heap.size + 1 + 1 + 1; have := Z1.out; have := Z2.out; have := Z3.out; have := Z4.out; have := Z5.out; have := Z6.out; have := Z7.out; have := Z8.out; have := Z9.out; have := Z10.out; have := Z11.out; have := Z12.out; have := Z13.out; have := Z14.out; have := Z15.out; have := Z16.out; have := Z17.out; have := Z18.out; have := Z19.out; have := Z20.out; have := Z21.out; omega) (all_cons (by show w.heap.size + 1 + 1 < w6.heap.size ∨ w7.heap.size ≤ w.heap.size + 1 + 1; have := Z1.out; have := Z2.out; have := Z3.out; have := Z4.out; have := Z5.out; have := Z6.out; have := Z7.out; have := Z8.out; have := Z9.out; have := Z10.out; have := Z11.out; have := Z12.out; have := Z13.out; have := Z14.out; have := Z15.out; have := Z16.out; have := Z17.out; have := Z18.out; have := Z19.out; have := Z20.out; have := Z21.out; omega) (all_cons (by show w.heap.size + 1 < w6.heap.size ∨ w7.heap.size ≤ w.heap.size + 1; have := Z1.out; have := Z2.out; have := Z3.out; have := Z4.out; have := Z5.out; have := Z6.out; have := Z7.out; have := Z8.out; have := Z9.out; have := Z10.out; have := Z11.out; have := Z12.out; have := Z13.out; have := Z14.out; have := Z15.out; have := Z16.out; have := Z17.out; have := Z18.out; have := Z19.out; have := Z20.out; have := Z21.out; omega) (all_cons (by show w.heap.size < w6.heap.size ∨ w7.heap.size ≤ w.heap.size; have := Z1.out; have := Z2.out; have := Z3.out; have := Z4.out; have := Z5.out; have := Z6.out; have := Z7.out; have := Z8.out; have := Z9.out; have := Z10.out; have := Z11.out; have := Z12.out; have := Z13.out; have := Z14.out; have := Z15.out; have := Z16.out; have := Z17.out; have := Z18.out; have := Z19.out; have := Z20.out; have := Z21.out; omega) all_nil)))))))) (all_cons (by show w15.heap.size ≤ w6.heap.size ∨ w7.heap.size ≤ w14.heap.size; have := Z1.out; have := Z2.out; have := Z3.out; have := Z4.out; have := Z5.out; have := Z6.out; have := Z7.out; have := Z8.out; have := Z9.out; have := Z10.out; have := Z11.out; have := Z12.out; have := Z13.out; have := Z14.out; have := Z15.out; have := Z16.out; have := Z17.out; have := Z18.out; have := Z19.out; have := Z20.out; have := Z21.out; omega) (all_cons (by show w13.heap.size ≤ w6.heap.size ∨ w7.heap.size ≤ w12.heap.size; have := Z1.out; have := Z2.out; have := Z3.out; have := Z4.out; have := Z5.out; have := Z6.out; have := Z7.out; have := Z8.out; have := Z9.out; have := Z10.out; have := Z11.out; have := Z12.out; have := Z13.out; have := Z14.out; have := Z15.out; have := Z16.out; have := Z17.out; have := Z18.out; have := Z19.out; have := Z20.out; have := Z21.out; omega) (all_cons (by show w11.heap.size ≤ w6.heap.size ∨ w7.heap.size ≤ w10.heap.size; have := Z1.out; have := Z2.out; have := Z3.out; have := Z4.out; have := Z5.out; have := Z6.out; have := Z7.out; have := Z8.out; have := Z9.out; have := Z10.out; have := Z11.out; have := Z12.out; have := Z13.out; have := Z14.out; have := Z15.out; have := Z16.out; have := Z17.out; have := Z18.out; have := Z19.out; have := Z20.out; have := Z21.out; omega) (all_cons (by show w9.heap.size ≤ w6.heap.size ∨ w7.heap.size ≤ w8.heap.size; have := Z1.out; have := Z2.out; have := Z3.out; have := Z4.out; have := Z5.out; have := Z6.out; have := Z7.out; have := Z8.out; have := Z9.out; have := Z10.out; have := Z11.out; have := Z12.out; have := Z13.out; have := Z14.out; have := Z15.out; have := Z16.out; have := Z17.out; have := Z18.out; have := Z19.out; have := Z20.out; have := Z21.out; omega) (all_cons (by show wdz.heap.size ≤ w6.heap.size ∨ w7.heap.size ≤ wcz.heap.size; have := Z1.out; have := Z2.out; have := Z3.out; have := Z4.out; have := Z5.out; have := Z6.out; have := Z7.out; have := Z8.out; have := Z9.out; have := Z10.out; have := Z11.out; have := Z12.out; have := Z13.out; have := Z14.out; have := Z15.out; have := Z16.out; have := Z17.out; have := Z18.out; have := Z19.out; have := Z20.out; have := Z21.out; omega) all_nil))))))
            clear S25
            have Z22 : Hid (w20.heap.size ≤ w21.heap.size) := Lib.hid (ho.size)
            clear hh ho
            obtain ⟨K1, hK⟩ : ∃ K : Int, 1 + (x0.length : Int) = K := ⟨_, rfl⟩
            have K1a : 0 ≤ K1 := by omega
            have K1b : K1 ≤ 3000000 := by omega
            rw [hK]
            have HK_1 := Lib.hid hK
            clear hK
            have qx1_0 := (S26.out.bx _ (.tail _ (.tail _ (.head _)))).cell 0
            have qx1_1 := (S26.out.bx _ (.tail _ (.tail _ (.head _)))).cell 1
            simp at qx1_0 qx1_1
            go_wp2_with fail
            refine (mkgr_any p1 w8.heap.size w9.heap.size _ x1 K1 _ (S26.out.ls _ (.tail _ (.tail _ (.tail _ (.head _))))) (by omega) (by omega) (by omega)).mono ?_
            rintro e w22 ⟨rfl, hh, ho⟩
            clear qx1_0 qx1_1
            have S27 := Lib.hid (Sx.markAt (L1 := [.l w14.heap.size w15.heap.size (.slice Agr XS.length Cgr) XS, .p w12.heap.size w13.heap.size (.slice Ax3 x3.length Cx3) (.slice Bx3 y3.length Dx3) x3 y3, .p w10.heap.size w11.heap.size (.slice Ax2 x2.length Cx2) (.slice Bx2 y2.length Dx2) x2 y2]) (L2 := [.l w6.heap.size w7.heap.size (.slice Ax0 x0.length Cx0) (markTo x0 1 x0.length), .l wcz.heap.size wdz.heap.size (.slice Azr XS.length Czr) XS]) (c := .l w8.heap.size w9.heap.size (.slice Ax1 x1.length Cx1) x1) (c' := .l w8.heap.size w9.heap.size (.slice Ax1 x1.length Cx1) (markTo x1 K1 x1.length)) S26.out ho hh (by have := Z1.out; have := Z2.out; have := Z3.out; have := Z4.out; have := Z5.out; have := Z6.out; have := Z7.out; have := Z8.out; have := Z9.out; have := Z10.out; have := Z11.out; have := Z12.out; have := Z13.out; have := Z14.out; have := Z15.out; have := Z16.out; have := Z17.out; have := Z18.out; have := Z19.out; have := Z20.out; have := Z21.out; have := Z22.out; omega) (by have := Z1.out; have := Z2.out; have := Z3.out; have := Z4.out; have := Z5.out; have := Z6.out; have := Z7.out; have := Z8.out; have := Z9.out; have := Z10.out; have := Z11.out; have := Z12.out; have := Z13.out; have := Z14.out; have := Z15.out; have := Z16.out; have := Z17.out; have := Z18.out; have := Z19.out; have := Z20.out; have := Z21.out; have := Z22.out; omega) (all_cons (by show w13.heap.size < w8.heap.size ∨ w9.heap.size ≤ w13.heap.size; have := Z1.out; have := Z2.out; have := Z3.out; have := Z4.out; have := Z5.out; have := Z6.out; have := Z7.out; have := Z8.out; have := Z9.out; have := Z10.out; have := Z11.out; have := Z12.out; have := Z13.out; have := Z14.out; have := Z15.out; have := Z16.out; have := Z17.out; have := Z18.out; have := Z19.out; have := Z20.out; have := Z21.out; have := Z22.out; omega) (all_cons (by show w11.heap.size < w8.heap.size ∨ w9.heap.size ≤ w11.heap.size; have := Z1.out; have := Z2.out; have := Z3.out; have := Z4.out; have := Z5.out; have := Z6.out; have := Z7.out; have := Z8.out; have := Z9.out; have := Z10.out; have := Z11.out; have := Z12.out; have := Z13.out; have := Z14.out; have := Z15.out; have := Z16.out; have := Z17.out; have := Z18.out; have := Z19.out; have := Z20.out; have := Z21.out; have := Z22.out; omega) (all_cons (by show w9.heap.size < w8.heap.size ∨ w9.heap.size ≤ w9.heap.size; have := Z1.out; have := Z2.out; have := Z3.out; have := Z4.out; have := Z5.out; have := Z6.out; have := Z7.out; have := Z8.out; have := Z9.out; have := Z10.out; have := Z11.out; have := Z12.out; have := Z13.out; have := Z14.out; have := Z15.out; have := Z16.out; have := Z17.out; have := Z18.out; have := Z19.out; have := Z20.out; have := Z21.out; have := Z22.out; omega) (all_cons (by show w7.heap.size < w8.heap.size ∨ w9.heap.size ≤ w7.heap.size; have := Z1.out; have := Z2.out; have := Z3.out; have := Z4.out; have := Z5.out; have := Z6.out; have := Z7.out; have := Z8.out; have := Z9.out; have := Z10.out; have := Z11.out; have := Z12.out; have := Z13.out; have := Z14.out; have := Z15.out; have := Z16.out; have := Z17.out; have := Z18.out; have := Z19.out; have := Z20.out; have := Z21.out; have := Z22.out; omega) (all_cons (by show w.heap.size + 1 + 1 + 1 < w8.heap.size ∨ w9.heap.size ≤ w.heap.size + 1 + 1 + 1; have := Z1.out; have := Z2.out; have := Z3.out; have := Z4.out; have := Z5.out; have := Z6.out; have := Z7.out; have := Z8.out; have := Z9.out; have := Z10.out; have := Z11.out; have := Z12.out; have := Z13.out; have := Z14.out; have := Z15.out; have := Z16.out; have := Z17.out; have := Z18.out; have := Z19.out; have := Z20.out; have := Z21.out; have := Z22.out; omega) (all_cons (by show w.heap.size + 1 + 1 < w8.heap.size ∨ w9.heap.size ≤ w.heap.size + 1 + 1; have := Z1.out; have := Z2.out; have := Z3.out; have := Z4.out; have := Z5.out; have := Z6.out; have := Z7.out; have := Z8.out; have := Z9.out; have := Z10.out; have := Z11.out; have := Z12.out; have := Z13.out; have := Z14.out; have := Z15.out; have := Z16.out; have := Z17.out; have := Z18.out; have := Z19.out; have := Z20.out; have := Z21.out; have := Z22.out; omega) (all_cons (by show w.heap.size + 1 < w8.heap.size ∨ w9.heap.size ≤ w.heap.size + 1; have := Z1.out; have := Z2.out; have := Z3.out; have := Z4.out; have := Z5.out; have := Z6.out; have := Z7.out; have := Z8.out; have := Z9.out; have := Z10.out; have := Z11.out; have := Z12.out; have := Z13.out; have := Z14.out; have := Z15.out; have := Z16.out; have := Z17.out; have := Z18.out; have := Z19.out; have := Z20.out; have := Z21.out; have := Z22.out; omega) (all_cons (by show w.heap.size < w8.heap.size ∨ w9.heap.size ≤ w.heap.size; have := Z1.out; have := Z2.out; have := Z3.out; have := Z4.out; have := Z5.out; have := Z6.out; have := Z7.out; have := Z8.out; have := Z9.out; have := Z10.out; have := Z11.out; have := Z12.out; have := Z13.out; have := Z14.out; have := Z15.out; have := Z16.out; have := Z17.out; have := Z18.out; have := Z19.out; have := Z20.out; have := Z21.out; have := Z22.out; omega) all_nil)))))))) (all_cons (by show w15.heap.size ≤ w8.heap.size ∨ w9.heap.size ≤ w14.heap.size; have := Z1.out; have := Z2.out; have := Z3.out; have := Z4.out; have := Z5.out; have := Z6.out; have := Z7.out; have := Z8.out; have := Z9.out; have := Z10.out; have := Z11.out; have := Z12.out; have := Z13.out; have := Z14.out; have := Z15.out; have := Z16.out; have := Z17.out; have := Z18.out; have := Z19.out; have := Z20.out; have := Z21.out; have := Z22.out; omega) (all_cons (by show w13.heap.size ≤ w8.heap.size ∨ w9.heap.size ≤ w12.heap.size; have := Z1.out; have := Z2.out; have := Z3.out; have := Z4.out; have := Z5.out; have := Z6.out; have := Z7.out; have := Z8.out; have := Z9.out; have := Z10.out; have := Z11.out; have := Z12.out; have := Z13.out; have := Z14.out; have := Z15.out; have := Z16.out; have := Z17.out; have := Z18.out; have := Z19.out; have := Z20.out; have := Z21.out; have := Z22.out; omega) (all_cons (by show w11.heap.size ≤ w8.heap.size ∨ w9.heap.size ≤ w10.heap.size; have := Z1.out; have := Z2.out; have := Z3.out; have := Z4.out; have := Z5.out; have := Z6.out; have := Z7.out; have := Z8.out; have := Z9.out; have := Z10.out; have := Z11.out; have := Z12.out; have := Z13.out; have := Z14.out; have := Z15.out; have := Z16.out; have := Z17.out; have := Z18.out; have := Z19.out; have := Z20.out; have := Z21.out; have := Z22.out; omega) (all_cons (by show w7.heap.size ≤ w8.heap.size ∨ w9.heap.size ≤ w6.heap.size; have := Z1.out; have := Z2.out; have := Z3.out; have := Z4.out; have := Z5.out; have := Z6.out; have := Z7.out; have := Z8.out; have := Z9.out; have := Z10.out; have := Z11.out; have := Z12.out; have := Z13.out; have := Z14.out; have := Z15.out; have := Z16.out; have := Z17.out; have := Z18.out; have := Z19.out; have := Z20.out; have := Z21.out; have := Z22.out; omega) (all_cons (by show wdz.heap.size ≤ w8.heap.size ∨ w9.heap.size ≤ wcz.heap.size; have := Z1.out; have := Z2.out; have := Z3.out; have := Z4.out; have := Z5.out; have := Z6.out; have := Z7.out; have := Z8.out; have := Z9.out; have := Z10.out; have := Z11.out; have := Z12.out; have := Z13.out; have := Z14.out; have := Z15.out; have := Z16.out; have := Z17.out; have := Z18.out; have := Z19.out; have := Z20.out; have := Z21.out; have := Z22.out; omega) all_nil))))))
            clear S26
            have Z23 : Hid (w21.heap.size ≤ w22.heap.size) := Lib.hid (ho.size)
            clear hh ho
            obtain ⟨K2, hK⟩ : ∃ K : Int, K1 + (x1.length : Int) = K := ⟨_, rfl⟩
            have K2a : 0 ≤ K2 := by omega
            have K2b : K2 ≤ 6000000 := by omega
            rw [hK]
            have HK_2 := Lib.hid hK
            clear hK
            have qx2_0 := (S27.out.bx _ (.tail _ (.head _))).cell 0
            have qx2_1 := (S27.out.bx _ (.tail _ (.head _))).cell 1
            have qx2_2 := (S27.out.bx _ (.tail _ (.head _))).cell 2
            have qx2_3 := (S27.out.bx _ (.tail _ (.head _))).cell 3
            simp at qx2_0 qx2_1 qx2_2 qx2_3
            go_wp2_with fail
            refine (mktr_any p2 n2 w10.heap.size w11.heap.size _ _ x2 y2 K2 _ (S27.out.ls _ (.tail _ (.tail _ (.head _)))) (by omega) (by omega) (by omega) (by omega)).mono ?_
            rintro e w23 ⟨rfl, hh, ho⟩
            clear qx2_0 qx2_1 qx2_2 qx2_3
            have S28 := Lib.hid (Sx.markAt (L1 := [.l w14.heap.size w15.heap.size (.slice Agr XS.length Cgr) XS, .p w12.heap.size w13.heap.size (.slice Ax3 x3.length Cx3) (.slice Bx3 y3.length Dx3) x3 y3]) (L2 := [.l w8.heap.size w9.heap.size (.slice Ax1 x1.length Cx1) (markTo x1 K1 x1.length), .l w6.heap.size w7.heap.size (.slice Ax0 x0.length Cx0) (markTo x0 1 x0.length), .l wcz.heap.size wdz.heap.size (.slice Azr XS.length Czr) XS]) (c := .p w10.heap.size w11.heap.size (.slice Ax2 x2.length Cx2) (.slice Bx2 y2.length Dx2) x2 y2) (c' := .p w10.heap.size w11.heap.size (.slice Ax2 x2.length Cx2) (.slice Bx2 y2.length Dx2) (markTo x2 K2 x2.length) (markTo y2 (K2 + (x2.length : Int)) y2.length)) S27.out ho hh (by have := Z1.out; have := Z2.out; have := Z3.out; have := Z4.out; have := Z5.out; have := Z6.out; have := Z7.out; have := Z8.out; have := Z9.out; have := Z10.out; have := Z11.out; have := Z12.out; have := Z13.out; have := Z14.out; have := Z15.out; have := Z16.out; have := Z17.out; have := Z18.out; have := Z19.out; have := Z20.out; have := Z21.out; have := Z22.out; have := Z23.out; omega) (by have := Z1.out; have := Z2.out; have := Z3.out; have := Z4.out; have := Z5.out; have := Z6.out; have := Z7.out; have := Z8.out; have := Z9.out; have := Z10.out; have := Z11.out; have := Z12.out; have := Z13.out; have := Z14.out; have := Z15.out; have := Z16.out; have := Z17.out; have := Z18.out; have := Z19.out; have := Z20.out; have := Z21.out; have := Z22.out; have := Z23.out; omega) (all_cons (by show w13.heap.size < w10.heap.size ∨ w11.heap.size ≤ w13.heap.size; have := Z1.out; have := Z2.out; have := Z3.out; have := Z4.out; have := Z5.out; have := Z6.out; have := Z7.out; have := Z8.out; have := Z9.out; have := Z10.out; have := Z11.out; have := Z12.out; have := Z13.out; have := Z14.out; have := Z15.out; have := Z16.out; have := Z17.out; have := Z18.out; have := Z19.out; have := Z20.out; have := Z21.out; have := Z22.out; have := Z23.out; omega) (all_cons (by show w11.heap.size < w10.heap.size ∨ w11.heap.size ≤ w11.heap.size; have := Z1.out; have := Z2.out; have := Z3.out; have := Z4.out; have := Z5.out; have := Z6.out; have := Z7.out; have := Z8.out; have := Z9.out; have := Z10.out; have := Z11.out; have := Z12.out; have := Z13.out; have := Z14.out; have := Z15.out; have := Z16.out; have := Z17.out; have := Z18.out; have := Z19.out; have := Z20.out; have := Z21.out; have := Z22.out; have := Z23.out; omega) (all_cons (by show w9.heap.size < w10.heap.size ∨ w11.heap.size ≤ w9.heap.size; have := Z1.out; have := Z2.out; have := Z3.out; have := Z4.out; have := Z5.out; have := Z6.out; have := Z7.out; have := Z8.out; have := Z9.out; have := Z10.out; have := Z11.out; have := Z12.out; have := Z13.out; have := Z14.out; have := Z15.out; have := Z16.out; have := Z17.out; have := Z18.out; have := Z19.out; have := Z20.out; have := Z21.out; have := Z22.out; have := Z23.out; omega) (all_cons (by show w7.heap.size < w10.heap.size ∨ w11.heap.size ≤ w7.heap.size; have := Z1.out; have := Z2.out; have := Z3.out; have := Z4.out; have := Z5.out; have := Z6.out; have := Z7.out; have := Z8.out; have := Z9.out; have := Z10.out; have := Z11.out; have := Z12.out; have := Z13.out; have := Z14.out; have := Z15.out; have := Z16.out; have := Z17.out; have := Z18.out; have := Z19.out; have := Z20.out; have := Z21.out; have := Z22.out; have := Z23.out; omega) (all_cons (by show w.heap.size + 1 + 1 + 1 < w10.heap.size ∨ w11.heap.size ≤ w.heap.size + 1 + 1 + 1; have := Z1.out; have := Z2.out; have := Z3.out; have := Z4.out; have := Z5.out; have := Z6.out; have := Z7.out; have := Z8.out; have := Z9.out; have := Z10.out; have := Z11.out; have := Z12.out; have := Z13.out; have := Z14.out; have := Z15.out; have := Z16.out; have := Z17.out; have := Z18.out; have := Z19.out; have := Z20.out; have := Z21.out; have := Z22.out; have := Z23.out; omega) (all_cons (by show w.heap.size + 1 + 1 < w10.heap.size ∨ w11.heap.size ≤ w.heap.size + 1 + 1; have := Z1.out; have := Z2.out; have := Z3.out; have := Z4.out; have := Z5.out; have := Z6.out; have := Z7.out; have := Z8.out; have := Z9.out; have := Z10.out; have := Z11.out; have := Z12.out; have := Z13.out; have := Z14.out; have := Z15.out; have := Z16.out; have := Z17.out; have := Z18.out; have := Z19.out; have := Z20.out; have := Z21.out; have := Z22.out; have := Z23.out; omega) (all_cons (by show w.heap.size + 1 < w10.heap.size ∨ w11.heap.size ≤ w.heap.size + 1; have := Z1.out; have := Z2.out; have := Z3.out; have := Z4.out; have := Z5.out; have := Z6.out; have := Z7.out; have := Z8.out; have := Z9.out; have := Z10.out; have := Z11.out; have := Z12.out; have := Z13.out; have := Z14.out; have := Z15.out; have := Z16.out; have := Z17.out; have := Z18.out; have := Z19.out; have := Z20.out; have := Z21.out; have := Z22.out; have := Z23.out; omega) (all_cons (by show w.heap.size < w10.heap.size ∨ w11.heap.size ≤ w.heap.size; have := Z1.out; have := Z2.out; have := Z3.out; have := Z4.out; have := Z5.out; have := Z6.out; have := Z7.out; have := Z8.out; have := Z9.out; have := Z10.out; have := Z11.out; have := Z12.out; have := Z13.out; have := Z14.out; have := Z15.out; have := Z16.out; have := Z17.out; have := Z18.out; have := Z19.out; have := Z20.out; have := Z21.out; have := Z22.out; have := Z23.out; omega) all_nil)))))))) (all_cons (by show w15.heap.size ≤ w10.heap.size ∨ w11.heap.size ≤ w14.heap.size; have := Z1.out; have := Z2.out; have := Z3.out; have := Z4.out; have := Z5.out; have := Z6.out; have := Z7.out; have := Z8.out; have := Z9.out; have := Z10.out; have := Z11.out; have := Z12.out; have := Z13.out; have := Z14.out; have := Z15.out; have := Z16.out; have := Z17.out; have := Z18.out; have := Z19.out; have := Z20.out; have := Z21.out; have := Z22.out; have := Z23.out; omega) (all_cons (by show w13.heap.size ≤ w10.heap.size ∨ w11.heap.size ≤ w12.heap.size; have := Z1.out; have := Z2.out; have := Z3.out; have := Z4.out; have := Z5.out; have := Z6.out; have := Z7.out; have := Z8.out; have := Z9.out; have := Z10.out; have := Z11.out; have := Z12.out; have := Z13.out; have := Z14.out; have := Z15.out; have := Z16.out; have := Z17.out; have := Z18.out; have := Z19.out; have := Z20.out; have := Z21.out; have := Z22.out; have := Z23.out; omega) (all_cons (by show w9.heap.size ≤ w10.heap.size ∨ w11.heap.size ≤ w8.heap.size; have := Z1.out; have := Z2.out; have := Z3.out; have := Z4.out; have := Z5.out; have := Z6.out; have := Z7.out; have := Z8.out; have := Z9.out; have := Z10.out; have := Z11.out; have := Z12.out; have := Z13.out; have := Z14.out; have := Z15.out; have := Z16.out; have := Z17.out; have := Z18.out; have := Z19.out; have := Z20.out; have := Z21.out; have := Z22.out; have := Z23.out; omega) (all_cons (by show w7.heap.size ≤ w10.heap.size ∨ w11.heap.size ≤ w6.heap.size; have := Z1.out; have := Z2.out; have := Z3.out; have := Z4.out; have := Z5.out; have := Z6.out; have := Z7.out; have := Z8.out; have := Z9.out; have := Z10.out; have := Z11.out; have := Z12.out; have := Z13.out; have := Z14.out; have := Z15.out; have := Z16.out; have := Z17.out; have := Z18.out; have := Z19.out; have := Z20.out; have := Z21.out; have := Z22.out; have := Z23.out; omega) (all_cons (by show wdz.heap.size ≤ w10.heap.size ∨ w11.heap.size ≤ wcz.heap.size; have := Z1.out; have := Z2.out; have := Z3.out; have := Z4.out; have := Z5.out; have := Z6.out; have := Z7.out; have := Z8.out; have := Z9.out; have := Z10.out; have := Z11.out; have := Z12.out; have := Z13.out; have := Z14.out; have := Z15.out; have := Z16.out; have := Z17.out; have := Z18.out; have := Z19.out; have := Z20.out; have := Z21.out; have := Z22.out; have := Z23.out; omega) all_nil))))))
            clear S27
            have Z24 : Hid (w22.heap.size ≤ w23.heap.size) := Lib.hid (ho.size)
            clear hh ho
            obtain ⟨K3, hK⟩ : ∃ K : Int, K2 + (x2.length : Int) + (y2.length : Int) = K := ⟨_, rfl⟩
            have K3a : 0 ≤ K3 := by omega
            have K3b : K3 ≤ 9000000 := by omega
            rw [hK]
            have HK_3 := Lib.hid hK
            clear hK
            have qx3_0 := (S28.out.bx _ (.head _)).cell 0
            have qx3_1 := (S28.out.bx _ (.head _)).cell 1
            have qx3_2 := (S28.out.bx _ (.head _)).cell 2
            have qx3_3 := (S28.out.bx _ (.head _)).cell 3
            simp at qx3_0 qx3_1 qx3_2 qx3_3
            go_wp2_with fail
            refine (mktr_any p3 n3 w12.heap.size w13.heap.size _ _ x3 y3 K3 _ (S28.out.ls _ (.tail _ (.head _))) (by omega) (by omega) (by omega) (by omega)).mono ?_
            rintro e w24 ⟨rfl, hh, ho⟩
            clear qx3_0 qx3_1 qx3_2 qx3_3
            have S29 := Lib.hid (Sx.markAt (L1 := [.l w14.heap.size w15.heap.size (.slice Agr XS.length Cgr) XS]) (L2 := [.p w10.heap.size w11.heap.size (.slice Ax2 x2.length Cx2) (.slice Bx2 y2.length Dx2) (markTo x2 K2 x2.length) (markTo y2 (K2 + (x2.length : Int)) y2.length), .l w8.heap.size w9.heap.size (.slice Ax1 x1.length Cx1) (markTo x1 K1 x1.length), .l w6.heap.size w7.heap.size (.slice Ax0 x0.length Cx0) (markTo x0 1 x0.length), .l wcz.heap.size wdz.heap.size (.slice Azr XS.length Czr) XS]) (c := .p w12.heap.size w13.heap.size (.slice Ax3 x3.length Cx3) (.slice Bx3 y3.length Dx3) x3 y3) (c' := .p w12.heap.size w13.heap.size (.slice Ax3 x3.length Cx3) (.slice Bx3 y3.length Dx3) (markTo x3 K3 x3.length) (markTo y3 (K3 + (x3.length : Int)) y3.length)) S28.out ho hh (by have := Z1.out; have := Z2.out; have := Z3.out; have := Z4.out; have := Z5.out; have := Z6.out; have := Z7.out; have := Z8.out; have := Z9.out; have := Z10.out; have := Z11.out; have := Z12.out; have := Z13.out; have := Z14.out; have := Z15.out; have := Z16.out; have := Z17.out; have := Z18.out; have := Z19.out; have := Z20.out; have := Z21.out; have := Z22.out; have := Z23.out; have := Z24.out; omega) (by have := Z1.out; have := Z2.out; have := Z3.out; have := Z4.out; have := Z5.out; have := Z6.out; have := Z7.out; have := Z8.out; have := Z9.out; have := Z10.out; have := Z11.out; have := Z12.out; have := Z13.out; have := Z14.out; have := Z15.out; have := Z16.out; have := Z17.out; have := Z18.out; have := Z19.out; have := Z20.out; have := Z21.out; have := Z22.out; have := Z23.out; have := Z24.out; omega) (all_cons (by show w13.heap.size < w12.heap.size ∨ w13.heap.size ≤ w13.heap.size; have := Z1.out; have := Z2.out; have := Z3.out; have := Z4.out; have := Z5.out; have := Z6.out; have := Z7.out; have := Z8.out; have := Z9.out; have := Z10.out; have := Z11.out; have := Z12.out; have := Z13.out; have := Z14.out; have := Z15.out; have := Z16.out; have := Z17.out; have := Z18.out; have := Z19.out; have := Z20.out; have := Z21.out; have := Z22.out; have := Z23.out; have := Z24.out; omega) (all_cons (by show w11.heap.size < w12.heap.size ∨ w13.heap.size ≤ w11.heap.size; have := Z1.out; have := Z2.out; have := Z3.out; have := Z4.out; have := Z5.out; have := Z6.out; have := Z7.out; have := Z8.out; have := Z9.out; have := Z10.out; have := Z11.out; have := Z12.out; have := Z13.out; have := Z14.out; have := Z15.out; have := Z16.out; have := Z17.out; have := Z18.out; have := Z19.out; have := Z20.out; have := Z21.out; have := Z22.out; have := Z23.out; have := Z24.out; omega) (all_cons (by show w9.heap.size < w12.heap.size ∨ w13.heap.size ≤ w9.heap.size; have := Z1.out; have := Z2.out; have := Z3.out; have := Z4.out; have := Z5.out; have := Z6.out; have := Z7.out; have := Z8.out; have := Z9.out; have := Z10.out; have := Z11.out; have := Z12.out; have := Z13.out; have := Z14.out; have := Z15.out; have := Z16.out; have := Z17.out; have := Z18.out; have := Z19.out; have := Z20.out; have := Z21.out; have := Z22.out; have := Z23.out; have := Z24.out; omega) (all_cons (by show w7.heap.size < w12.heap.size ∨ w13.heap.size ≤ w7.heap.size; have := Z1.out; have := Z2.out; have := Z3.out; have := Z4.out; have := Z5.out; have := Z6.out; have := Z7.out; have := Z8.out; have := Z9.out; have := Z10.out; have := Z11.out; have := Z12.out; have := Z13.out; have := Z14.out; have := Z15.out; have := Z16.out; have := Z17.out; have := Z18.out; have := Z19.out; have := Z20.out; have := Z21.out; have := Z22.out; have := Z23.out; have := Z24.out; omega) (all_cons (by show w.heap.size + 1 + 1 + 1 < w12.heap.size ∨ w13.heap.size ≤ w.heap.size + 1 + 1 + 1; have := Z1.out; have := Z2.out; have := Z3.out; have := Z4.out; have := Z5.out; have := Z6.out; have := Z7.out; have := Z8.out; have := Z9.out; have := Z10.out; have := Z11.out; have := Z12.out; have := Z13.out; have := Z14.out; have := Z15.out; have := Z16.out; have := Z17.out; have := Z18.out; have := Z19.out; have := Z20.out; have := Z21.out; have := Z22.out; have := Z23.out; have := Z24.out; omega) (all_cons (by show w.heap.size + 1 + 1 < w12.heap.size ∨ w13.heap.size ≤ w.heap.size + 1 + 1; have := Z1.out; have := Z2.out; have := Z3.out; have := Z4.out; have := Z5.out; have := Z6.out; have := Z7.out; have := Z8.out; have := Z9.out; have := Z10.out; have := Z11.out; have := Z12.out; have := Z13.out; have := Z14.out; have := Z15.out; have := Z16.out; have := Z17.out; have := Z18.out; have := Z19.out; have := Z20.out; have := Z21.out; have := Z22.out; have := Z23.out; have := Z24.out; omega) (all_cons (by show w.heap.size + 1 < w12.heap.size ∨ w13.heap.size ≤ w.heap.size + 1; have := Z1.out; have := Z2.out; have := Z3.out; have := Z4.out; have := Z5.out; have := Z6.out; have := Z7.out; have := Z8.out; have := Z9.out; have := Z10.out; have := Z11.out; have := Z12.out; have := Z13.out; have := Z14.out; have := Z15.out; have := Z16.out; have := Z17.out; have := Z18.out; have := Z19.out; have := Z20.out; have := Z21.out; have := Z22.out; have := Z23.out; have := Z24.out; omega) (all_cons (by show w.heap.size < w12.heap.size ∨ w13.heap.size ≤ w.heap.size; have := Z1.out; have := Z2.out; have := Z3.out; have := Z4.out; have := Z5.out; have := Z6.out; have := Z7.out; have := Z8.out; have := Z9.out; have := Z10.out; have := Z11.out; have := Z12.out; have := Z13.out; have := Z14.out; have := Z15.out; have := Z16.out; have := Z17.out; have := Z18.out; have := Z19.out; have := Z20.out; have := Z21.out; have := Z22.out; have := Z23.out; have := Z24.out; omega) all_nil)))))))) (all_cons (by show w15.heap.size ≤ w12.heap.size ∨ w13.heap.size ≤ w14.heap.size; have := Z1.out; have := Z2.out; have := Z3.out; have := Z4.out; have := Z5.out; have := Z6.out; have := Z7.out; have := Z8.out; have := Z9.out; have := Z10.out; have := Z11.out; have := Z12.out; have := Z13.out; have := Z14.out; have := Z15.out; have := Z16.out; have := Z17.out; have := Z18.out; have := Z19.out; have := Z20.out; have := Z21.out; have := Z22.out; have := Z23.out; have := Z24.out; omega) (all_cons (by show w11.heap.size ≤ w12.heap.size ∨ w13.heap.size ≤ w10.heap.size; have := Z1.out; have := Z2.out; have := Z3.out; have := Z4.out; have := Z5.out; have := Z6.out; have := Z7.out; have := Z8.out; have := Z9.out; have := Z10.out; have := Z11.out; have := Z12.out; have := Z13.out; have := Z14.out; have := Z15.out; have := Z16.out; have := Z17.out; have := Z18.out; have := Z19.out; have := Z20.out; have := Z21.out; have := Z22.out; have := Z23.out; have := Z24.out; omega) (all_cons (by show w9.heap.size ≤ w12.heap.size ∨ w13.heap.size ≤ w8.heap.size; have := Z1.out; have := Z2.out; have := Z3.out; have := Z4.out; have := Z5.out; have := Z6.out; have := Z7.out; have := Z8.out; have := Z9.out; have := Z10.out; have := Z11.out; have := Z12.out; have := Z13.out; have := Z14.out; have := Z15.out; have := Z16.out; have := Z17.out; have := Z18.out; have := Z19.out; have := Z20.out; have := Z21.out; have := Z22.out; have := Z23.out; have := Z24.out; omega) (all_cons (by show w7.heap.size ≤ w12.heap.size ∨ w13.heap.size ≤ w6.heap.size; have := Z1.out; have := Z2.out; have := Z3.out; have := Z4.out; have := Z5.out; have := Z6.out; have := Z7.out; have := Z8.out; have := Z9.out; have := Z10.out; have := Z11.out; have := Z12.out; have := Z13.out; have := Z14.out; have := Z15.out; have := Z16.out; have := Z17.out; have := Z18.out; have := Z19.out; have := Z20.out; have := Z21.out; have := Z22.out; have := Z23.out; have := Z24.out; omega) (all_cons (by show wdz.heap.size ≤ w12.heap.size ∨ w13.heap.size ≤ wcz.heap.size; have := Z1.out; have := Z2.out; have := Z3.out; have := Z4.out; have := Z5.out; have := Z6.out; have := Z7.out; have := Z8.out; have := Z9.out; have := Z10.out; have := Z11.out; have := Z12.out; have := Z13.out; have := Z14.out; have := Z15.out; have := Z16.out; have := Z17.out; have := Z18.out; have := Z19.out; have := Z20.out; have := Z21.out; have := Z22.out; have := Z23.out; have := Z24.out; omega) all_nil))))))
            clear S28
            have Z25 : Hid (w23.heap.size ≤ w24.heap.size) := Lib.hid (ho.size)
            clear hh ho
            obtain ⟨K4, hK⟩ : ∃ K : Int, K3 + (x3.length : Int) + (y3.length : Int) = K := ⟨_, rfl⟩
            have K4a : 0 ≤ K4 := by omega
            have K4b : K4 ≤ 12000000 := by omega
            rw [hK]
            have HK_4 := Lib.hid hK
            clear hK
            have hk0 : ¬ K4 < 0 := by omega
            have hkd : decide (K4 < 0) = false := by simp; omega
            go_wp2_with fail
            refine (eqI_any _ _ XS _ (Ints.of_own (S29.out.ls _ (.head _)).1 HXL.out) (Ints.of_own (S29.out.ls _ (.tail _ (.tail _ (.tail _ (.tail _ (.tail _ (.head _))))))).1 HXL.out)).mono ?_
            rintro e w25 ⟨rfl, hb⟩
            have S30 := Lib.hid (S29.out.on hb)
            clear S29
            have Z26 : Hid (w24.heap.size ≤ w25.heap.size) := Lib.hid (hb.size)
            clear hb
            have hxm := HXM.out
            go_wp2_with fail
            refine (mkI_any w14.heap.size w15.heap.size _ XS 1 _ (S30.out.ls _ (.head _)) (by omega) (by omega) (by omega)).mono ?_
            rintro e w26 ⟨rfl, hh, ho⟩
            have S31 := Lib.hid (Sx.markAt (L1 := []) (L2 := [.p w12.heap.size w13.heap.size (.slice Ax3 x3.length Cx3) (.slice Bx3 y3.length Dx3) (markTo x3 K3 x3.length) (markTo y3 (K3 + (x3.length : Int)) y3.length), .p w10.heap.size w11.heap.size (.slice Ax2 x2.length Cx2) (.slice Bx2 y2.length Dx2) (markTo x2 K2 x2.length) (markTo y2 (K2 + (x2.length : Int)) y2.length), .l w8.heap.size w9.heap.size (.slice Ax1 x1.length Cx1) (markTo x1 K1 x1.length), .l w6.heap.size w7.heap.size (.slice Ax0 x0.length Cx0) (markTo x0 1 x0.length), .l wcz.heap.size wdz.heap.size (.slice Azr XS.length Czr) XS]) (c := .l w14.heap.size w15.heap.size (.slice Agr XS.length Cgr) XS) (c' := .l w14.heap.size w15.heap.size (.slice Agr XS.length Cgr) (markTo XS 1 XS.length)) S30.out ho hh (by have := Z1.out; have := Z2.out; have := Z3.out; have := Z4.out; have := Z5.out; have := Z6.out; have := Z7.out; have := Z8.out; have := Z9.out; have := Z10.out; have := Z11.out; have := Z12.out; have := Z13.out; have := Z14.out; have := Z15.out; have := Z16.out; have := Z17.out; have := Z18.out; have := Z19.out; have := Z20.out; have := Z21.out; have := Z22.out; have := Z23.out; have := Z24.out; have := Z25.out; have := Z26.out; omega) (by have := Z1.out; have := Z2.out; have := Z3.out; have := Z4.out; have := Z5.out; have := Z6.out; have := Z7.out; have := Z8.out; have := Z9.out; have := Z10.out; have := Z11.out; have := Z12.out; have := Z13.out; have := Z14.out; have := Z15.out; have := Z16.out; have := Z17.out; have := Z18.out; have := Z19.out; have := Z20.out; have := Z21.out; have := Z22.out; have := Z23.out; have := Z24.out; have := Z25.out; have := Z26.out; omega) (all_cons (by show w13.heap.size < w14.heap.size ∨ w15.heap.size ≤ w13.heap.size; have := Z1.out; have := Z2.out; have := Z3.out; have := Z4.out; have := Z5.out; have := Z6.out; have := Z7.out; have := Z8.out; have := Z9.out; have := Z10.out; have := Z11.out; have := Z12.out; have := Z13.out; have := Z14.out; have := Z15.out; have := Z16.out; have := Z17.out; have := Z18.out; have := Z19.out; have := Z20.out; have := Z21.out; have := Z22.out; have := Z23.out; have := Z24.out; have := Z25.out; have := Z26.out; omega) (all_cons (by show w11.heap.size < w14.heap.size ∨ w15.heap.size ≤ w11.heap.size; have := Z1.out; have := Z2.out; have := Z3.out; have := Z4.out; have := Z5.out; have := Z6.out; have := Z7.out; have := Z8.out; have := Z9.out; have := Z10.out; have := Z11.out; have := Z12.out; have := Z13.out; have := Z14.out; have := Z15.out; have := Z16.out; have := Z17.out; have := Z18.out; have := Z19.out; have := Z20.out; have := Z21.out; have := Z22.out; have := Z23.out; have := Z24.out; have := Z25.out; have := Z26.out; omega) (all_cons (by show w9.heap.size < w14.heap.size ∨ w15.heap.size ≤ w9.heap.size; have := Z1.out; have := Z2.out; have := Z3.out; have := Z4.out; have := Z5.out; have := Z6.out; have := Z7.out; have := Z8.out; have := Z9.out; have := Z10.out; have := Z11.out; have := Z12.out; have := Z13.out; have := Z14.out; have := Z15.out; have := Z16.out; have := Z17.out; have := Z18.out; have := Z19.out; have := Z20.out; have := Z21.out; have := Z22.out; have := Z23.out; have := Z24.out; have := Z25.out; have := Z26.out; omega) (all_cons (by show w7.heap.size < w14.heap.size ∨ w15.heap.size ≤ w7.heap.size; have := Z1.out; have := Z2.out; have := Z3.out; have := Z4.out; have := Z5.out; have := Z6.out; have := Z7.out; have := Z8.out; have := Z9.out; have := Z10.out; have := Z11.out; have := Z12.out; have := Z13.out; have := Z14.out; have := Z15.out; have := Z16.out; have := Z17.out; have := Z18.out; have := Z19.out; have := Z20.out; have := Z21.out; have := Z22.out; have := Z23.out; have := Z24.out; have := Z25.out; have := Z26.out; omega) (all_cons (by show w.heap.size + 1 + 1 + 1 < w14.heap.size ∨ w15.heap.size ≤ w.heap.size + 1 + 1 + 1; have := Z1.out; have := Z2.out; have := Z3.out; have := Z4.out; have := Z5.out; have := Z6.out; have := Z7.out; have := Z8.out; have := Z9.out; have := Z10.out; have := Z11.out; have := Z12.out; have := Z13.out; have := Z14.out; have := Z15.out; have := Z16.out; have := Z17.out; have := Z18.out; have := Z19.out; have := Z20.out; have := Z21.out; have := Z22.out; have := Z23.out; have := Z24.out; have := Z25.out; have := Z26.out; omega) (all_cons (by show w.heap.size + 1 + 1 < w14.heap.size ∨ w15.heap.size ≤ w.heap.size + 1 + 1; have := Z1.out; have := Z2.out; have := Z3.out; have := Z4.out; have := Z5.out; have := Z6.out; have := Z7.out; have := Z8.out; have := Z9.out; have := Z10.out; have := Z11.out; have := Z12.out; have := Z13.out; have := Z14.out; have := Z15.out; have := Z16.out; have := Z17.out; have := Z18.out; have := Z19.out; have := Z20.out; have := Z21.out; have := Z22.out; have := Z23.out; have := Z24.out; have := Z25.out; have := Z26.out; omega) (all_cons (by show w.heap.size + 1 < w14.heap.size ∨ w15.heap.size ≤ w.heap.size + 1; have := Z1.out; have := Z2.out; have := Z3.out; have := Z4.out; have := Z5.out; have := Z6.out; have := Z7.out; have := Z8.out; have := Z9.out; have := Z10.out; have := Z11.out; have := Z12.out; have := Z13.out; have := Z14.out; have := Z15.out; have := Z16.out; have := Z17.out; have := Z18.out; have := Z19.out; have := Z20.out; have := Z21.out; have := Z22.out; have := Z23.out; have := Z24.out; have := Z25.out; have := Z26.out; omega) (all_cons (by show w.heap.size < w14.heap.size ∨ w15.heap.size ≤ w.heap.size; have := Z1.out; have := Z2.out; have := Z3.out; have := Z4.out; have := Z5.out; have := Z6.out; have := Z7.out; have := Z8.out; have := Z9.out; have := Z10.out; have := Z11.out; have := Z12.out; have := Z13.out; have := Z14.out; have := Z15.out; have := Z16.out; have := Z17.out; have := Z18.out; have := Z19.out; have := Z20.out; have := Z21.out; have := Z22.out; have := Z23.out; have := Z24.out; have := Z25.out; have := Z26.out; omega) all_nil)))))))) (all_cons (by show w13.heap.size ≤ w14.heap.size ∨ w15.heap.size ≤ w12.heap.size; have := Z1.out; have := Z2.out; have := Z3.out; have := Z4.out; have := Z5.out; have := Z6.out; have := Z7.out; have := Z8.out; have := Z9.out; have := Z10.out; have := Z11.out; have := Z12.out; have := Z13.out; have := Z14.out; have := Z15.out; have := Z16.out; have := Z17.out; have := Z18.out; have := Z19.out; have := Z20.out; have := Z21.out; have := Z22.out; have := Z23.out; have := Z24.out; have := Z25.out; have := Z26.out; omega) (all_cons (by show w11.heap.size ≤ w14.heap.size ∨ w15.heap.size ≤ w10.heap.size; have := Z1.out; have := Z2.out; have := Z3.out; have := Z4.out; have := Z5.out; have := Z6.out; have := Z7.out; have := Z8.out; have := Z9.out; have := Z10.out; have := Z11.out; have := Z12.out; have := Z13.out; have := Z14.out; have := Z15.out; have := Z16.out; have := Z17.out; have := Z18.out; have := Z19.out; have := Z20.out; have := Z21.out; have := Z22.out; have := Z23.out; have := Z24.out; have := Z25.out; have := Z26.out; omega) (all_cons (by show w9.heap.size ≤ w14.heap.size ∨ w15.heap.size ≤ w8.heap.size; have := Z1.out; have := Z2.out; have := Z3.out; have := Z4.out; have := Z5.out; have := Z6.out; have := Z7.out; have := Z8.out; have := Z9.out; have := Z10.out; have := Z11.out; have := Z12.out; have := Z13.out; have := Z14.out; have := Z15.out; have := Z16.out; have := Z17.out; have := Z18.out; have := Z19.out; have := Z20.out; have := Z21.out; have := Z22.out; have := Z23.out; have := Z24.out; have := Z25.out; have := Z26.out; omega) (all_cons (by show w7.heap.size ≤ w14.heap.size ∨ w15.heap.size ≤ w6.heap.size; have := Z1.out; have := Z2.out; have := Z3.out; have := Z4.out; have := Z5.out; have := Z6.out; have := Z7.out; have := Z8.out; have := Z9.out; have := Z10.out; have := Z11.out; have := Z12.out; have := Z13.out; have := Z14.out; have := Z15.out; have := Z16.out; have := Z17.out; have := Z18.out; have := Z19.out; have := Z20.out; have := Z21.out; have := Z22.out; have := Z23.out; have := Z24.out; have := Z25.out; have := Z26.out; omega) (all_cons (by show wdz.heap.size ≤ w14.heap.size ∨ w15.heap.size ≤ wcz.heap.size; have := Z1.out; have := Z2.out; have := Z3.out; have := Z4.out; have := Z5.out; have := Z6.out; have := Z7.out; have := Z8.out; have := Z9.out; have := Z10.out; have := Z11.out; have := Z12.out; have := Z13.out; have := Z14.out; have := Z15.out; have := Z16.out; have := Z17.out; have := Z18.out; have := Z19.out; have := Z20.out; have := Z21.out; have := Z22.out; have := Z23.out; have := Z24.out; have := Z25.out; have := Z26.out; omega) all_nil))))))
            clear S30
            have Z27 : Hid (w25.heap.size ≤ w26.heap.size) := Lib.hid (ho.size)
            clear hh ho
            obtain ⟨K5, hK⟩ : ∃ K : Int, 1 + (XS.length : Int) = K := ⟨_, rfl⟩
            have K5a : 0 ≤ K5 := by omega
            have K5b : K5 ≤ 15000000 := by omega
            rw [hK]
            have HK_5 := Lib.hid hK
            clear hK
            have hm0 : ¬ K5 < 0 := by omega
            have hmn : (K5 != K5) = false := by simp
            go_wp2_with fail
            refine (hdI_any _ XS 1 _ (Ints.of_own (S31.out.ls _ (.head _)).1 (by rw [markTo_len]; exact HXL.out)) (by omega) (by omega) (by omega)).mono ?_
            rintro e w27 ⟨rfl, hb⟩
            rw [HK_5.out]
            have S32 := Lib.hid (S31.out.on hb)
            clear S31
            have Z28 : Hid (w26.heap.size ≤ w27.heap.size) := Lib.hid (hb.size)
            clear hb
            go_wp2_with fail
            apply wp_region_H (Z := List Cp × Option (Nat × List Value)) (S := fun k => k == 1 || k == 3 || k == 5 || k == 7 || k == 8) (C := fun z w' => Hid (Zx w27 z.1 z.2 w')) [0, 2, 4, 6] ([], none)
            · kernel_rfl
            · kernel_rfl
            · kernel_rfl
            · exact ⟨rfl, rfl, rfl, rfl, trivial⟩
            · rfl
            · decide
            · exact Lib.hid (Zx.start (Below.refl _ _).drew)
            · intro z
              dsimp only [pickL, nthO]
              go_big_quiet_want
              go_big_quiet_op
              refine ⟨.agg #[.int .i64 p0, .slice a0 x0.length c0], fun w' hw' => ?_, ?_⟩
              · have q9 := (S32.out.on hw'.out.be).bx _ (.tail _ (.tail _ (.tail _ (.tail _ (.tail _ (.tail _ (.tail _ (.head _))))))))
                have q0 := q9.cell 0
                have q1 := q9.cell 1
                simp at q0 q1
                simp [go_sem, q0, q1]
              go_big_quiet_on
              go_big_quiet_want
              go_big_quiet_op
              refine ⟨.agg #[.int .i64 p1, .slice a1 x1.length c1], fun w' hw' => ?_, ?_⟩
              · have q9 := (S32.out.on hw'.out.be).bx _ (.tail _ (.tail _ (.tail _ (.tail _ (.tail _ (.tail _ (.head _)))))))
                have q0 := q9.cell 0
                have q1 := q9.cell 1
                simp at q0 q1
                simp [go_sem, q0, q1]
              go_big_quiet_on
              go_big_quiet_want
              go_big_quiet_op
              refine ⟨.agg #[.int .i64 p2, .slice a2 x2.length c2, .int .i64 n2, .slice b2 y2.length d2], fun w' hw' => ?_, ?_⟩
              · have q9 := (S32.out.on hw'.out.be).bx _ (.tail _ (.tail _ (.tail _ (.tail _ (.tail _ (.head _))))))
                have q0 := q9.cell 0
                have q1 := q9.cell 1
                have q2 := q9.cell 2
                have q3 := q9.cell 3
                simp at q0 q1 q2 q3
                simp [go_sem, q0, q1, q2, q3]
              go_big_quiet_on
              go_big_quiet_want
              go_big_quiet_op
              refine ⟨.agg #[.int .i64 p3, .slice a3 x3.length c3, .int .i64 n3, .slice b3 y3.length d3], fun w' hw' => ?_, ?_⟩
              · have q9 := (S32.out.on hw'.out.be).bx _ (.tail _ (.tail _ (.tail _ (.tail _ (.head _)))))
                have q0 := q9.cell 0
                have q1 := q9.cell 1
                have q2 := q9.cell 2
                have q3 := q9.cell 3
                simp at q0 q1 q2 q3
                simp [go_sem, q0, q1, q2, q3]
              go_big_quiet_on
              exact wpQuiet_nil rfl
            · skip
              refine wpAnyH_call (i := 1) (d := some 138) 16 #[.agg #[.int .i64 p0, .slice a0 x0.length c0]] rfl (by kernel_rfl) rfl rfl (by kernel_rfl) (fun _ => by kernel_rfl) fun way0 hc => ?_
              refine (togr_any p0 a0 c0 x0 way0 (HA0.out.on (S32.out.on hc.out.be).be) s0).mono ?_
              rintro e wby0 ⟨vy0, rfl, oo, hb⟩
              refine ⟨_, rfl, ([.l way0.heap.size wby0.heap.size vy0 x0], none), Lib.hid (hc.out.add hb (Hl.mk1 oo) (Nat.le_refl _)), ?_⟩
              clear oo hb hc
              refine wpAnyH_call (i := 3) (d := some 140) 16 #[.agg #[.int .i64 p1, .slice a1 x1.length c1]] rfl (by kernel_rfl) rfl rfl (by kernel_rfl) (fun _ => by kernel_rfl) fun way1 hc => ?_
              refine (togr_any p1 a1 c1 x1 way1 (HA1.out.on (S32.out.on hc.out.be).be) s1).mono ?_
              rintro e wby1 ⟨vy1, rfl, oo, hb⟩
              refine ⟨_, rfl, ([.l way1.heap.size wby1.heap.size vy1 x1, .l way0.heap.size wby0.heap.size vy0 x0], none), Lib.hid (hc.out.add hb (Hl.mk1 oo) (Nat.le_refl _)), ?_⟩
              clear oo hb hc
              refine wpAnyH_call (i := 5) (d := some 142) 40 #[.agg #[.int .i64 p2, .slice a2 x2.length c2, .int .i64 n2, .slice b2 y2.length d2]] rfl (by kernel_rfl) rfl rfl (by kernel_rfl) (fun _ => by kernel_rfl) fun way2 hc => ?_
              refine (totr_any p2 n2 a2 b2 c2 d2 x2 y2 way2 (HA2.out.on (S32.out.on hc.out.be).be) (HK2.out.on (S32.out.on hc.out.be).be) s2 t2).mono ?_
              rintro e wby2 ⟨vy2, uy2, rfl, oo, hb⟩
              refine ⟨_, rfl, ([.p way2.heap.size wby2.heap.size vy2 uy2 x2 y2, .l way1.heap.size wby1.heap.size vy1 x1, .l way0.heap.size wby0.heap.size vy0 x0], none), Lib.hid (hc.out.add hb oo (Nat.le_refl _)), ?_⟩
              clear oo hb hc
              refine wpAnyH_call (i := 7) (d := some 144) 40 #[.agg #[.int .i64 p3, .slice a3 x3.length c3, .int .i64 n3, .slice b3 y3.length d3]] rfl (by kernel_rfl) rfl rfl (by kernel_rfl) (fun _ => by kernel_rfl) fun way3 hc => ?_
              refine (totr_any p3 n3 a3 b3 c3 d3 x3 y3 way3 (HA3.out.on (S32.out.on hc.out.be).be) (HK3.out.on (S32.out.on hc.out.be).be) s3 t3).mono ?_
              rintro e wby3 ⟨vy3, uy3, rfl, oo, hb⟩
              refine ⟨_, rfl, ([.p way3.heap.size wby3.heap.size vy3 uy3 x3 y3, .p way2.heap.size wby2.heap.size vy2 uy2 x2 y2, .l way1.heap.size wby1.heap.size vy1 x1, .l way0.heap.size wby0.heap.size vy0 x0], none), Lib.hid (hc.out.add hb oo (Nat.le_refl _)), ?_⟩
              clear oo hb hc
              refine wpAnyH_call (i := 8) (d := some 145) 50 #[.agg #[.int .i64 p0, vy0], .agg #[.int .i64 p1, vy1], .agg #[.int .i64 p2, vy2, .int .i64 n2, uy2], .agg #[.int .i64 p3, vy3, .int .i64 n3, uy3]] rfl (by kernel_rfl) rfl rfl (by kernel_rfl) (fun _ => by kernel_rfl) fun wcy hc => ?_
              refine (iofr_any p0 p1 p2 n2 p3 n3 _ _ _ _ _ _ x0 x1 x2 y2 x3 y3 wcy (Ints.of_own (hc.out.ls _ (.tail _ (.tail _ (.tail _ (.head _))))).1 (small20 s0)) (Ints.of_own (hc.out.ls _ (.tail _ (.tail _ (.head _)))).1 (small20 s1)) (Ints.of_own (hc.out.ls _ (.tail _ (.head _))).1 (small20 s2)) (Ints.of_own (hc.out.ls _ (.head _)).1 (small20 s3)) (Ints.of_own (hc.out.ls _ (.tail _ (.head _))).2.1 (small20 t2)) (Ints.of_own (hc.out.ls _ (.head _)).2.1 (small20 t3)) (hc.out.ls _ (.tail _ (.head _))).2.1.capped (hc.out.ls _ (.head _)).2.1.capped IX0.out IX1.out).mono ?_
              rintro e wdy ⟨vy, rfl, oo, hb⟩
              try rw [HXS.out] at oo
              try rw [HBB.out]
              refine ⟨_, rfl, ([.l wcy.heap.size wdy.heap.size vy XS], none), Lib.hid (((hc.out.sub (L' := []) (fun _ m => (by cases m))).add hb (Hl.mk1 oo) (Nat.le_refl _))), ?_⟩
              clear hb oo hc
              refine wpAnyH_take (i := 9) (d := some 136) (.tuple #[vy, .bool BB]) rfl (by kernel_rfl) rfl rfl (by kernel_rfl) (by kernel_rfl) (by kernel_rfl) (fun _ => by kernel_rfl) ?_
              refine wpAnyH_take (i := 10) (d := some 146) (vy) rfl (by kernel_rfl) rfl rfl (by kernel_rfl) (by kernel_rfl) (by kernel_rfl) (fun _ => by kernel_rfl) ?_
              refine wpAnyH_take (i := 11) (d := some 147) (.bool BB) rfl (by kernel_rfl) rfl rfl (by kernel_rfl) (by kernel_rfl) (by kernel_rfl) (fun _ => by kernel_rfl) ?_
              refine wpAnyH_take (i := 12) (d := some 21) (vy) rfl (by kernel_rfl) rfl rfl (by kernel_rfl) (by kernel_rfl) (by kernel_rfl) (fun _ => by kernel_rfl) ?_
              refine wpAnyH_take (i := 13) (d := some 22) (.bool BB) rfl (by kernel_rfl) rfl rfl (by kernel_rfl) (by kernel_rfl) (by kernel_rfl) (fun _ => by kernel_rfl) ?_
              refine ⟨by kernel_rfl, fun w28 hz => ?_⟩
              simp only [Act.put, List.setIfInBounds_toArray, List.set_cons_zero, List.set_cons_succ]
              have S33 := Lib.hid (hz.out.fin0 S32.out)
              clear S32
              obtain ⟨Ayr, Cyr, ef⟩ := Own.form (S33.out.ls _ (.head _)).1
              subst ef
              have Z29 : Hid (wdy.heap.size ≤ w28.heap.size) := Lib.hid ((S33.out.ls _ (.head _)).size)
              have Z30 : Hid (w27.heap.size ≤ w28.heap.size) := Lib.hid (hz.out.be.size)
              clear hz
              go_wp2_with fail
              refine (eqI_any _ _ XS _ (Ints.of_own (S33.out.ls _ (.head _)).1 HXL.out) (Ints.of_own (S33.out.ls _ (.tail _ (.tail _ (.tail _ (.tail _ (.tail _ (.tail _ (.head _)))))))).1 HXL.out)).mono ?_
              rintro e w29 ⟨rfl, hb⟩
              have S34 := Lib.hid (S33.out.on hb)
              clear S33
              have Z31 : Hid (w28.heap.size ≤ w29.heap.size) := Lib.hid (hb.size)
              clear hb
              go_wp2_with fail
              refine (hdI_any _ XS 1 _ (Ints.of_own (S34.out.ls _ (.tail _ (.head _))).1 (by rw [markTo_len]; exact HXL.out)) (by omega) (by omega) (by omega)).mono ?_
              rintro e w30 ⟨rfl, hb⟩
              rw [HK_5.out]
              have S35 := Lib.hid (S34.out.on hb)
              clear S34
              have Z32 : Hid (w29.heap.size ≤ w30.heap.size) := Lib.hid (hb.size)
              clear hb
              go_wp2
              go_ret
              exact ⟨rfl, S35.out.be⟩
end Go.Proofs.Ytipndddmjgjgpaa
