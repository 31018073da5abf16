/- The exact law of ViewsOf, walked: spec's answer, impl's answer, and that both are the same; no argument is written to; the answer owns its memory. -/
import Derived.Test.YtimkmdedoacpfaaVwS
import Derived.Test.YtimkmdedoacpfaaGrC
import Derived.Test.YtimkmdedoacpfaaBSol
import Derived.Deep.Cut
namespace Go.Proofs.Ytimkmdedoacpfaa
open Go.RowKit

set_option maxRecDepth 100000 in
set_option maxHeartbeats 12800000 in
theorem xViewsOf_walk (p0 : Int) (a0 : Option Addr) (c0 : Nat) (x0 : List Int) (a1 : Option Addr) (c1 : Nat) (x1 : List Int) (n2 : Int) (w : World) (h0 : ArgI w a0 x0) (m0 : x0.length ≤ maxLen) (ip0 : intIn p0) (ix0 : ∀ j, j < x0.length → intIn (nth x0 j)) (h1 : ArgI w a1 x1) (m1 : x1.length ≤ maxLen) :
    Calls Try.prog 7 #[.agg #[.int .i64 p0, .slice a0 x0.length c0], .slice a1 x1.length c1, .int .i64 n2] w fun e w' => e = .returned (.bool true) ∧ Below w.heap.size w w' := by
  have HA0 := Lib.hid h0
  clear h0
  have IP0 := Lib.hid ip0
  have IX0 := Lib.hid ix0
  clear ip0 ix0
  have HA1 := Lib.hid h1
  clear h1
  obtain ⟨XS, hXS⟩ : ∃ r, vwL p0 x0 x1 n2 = r := ⟨_, rfl⟩
  have HXL : Hid (XS.length ≤ maxLen) := Lib.hid (by rw [← hXS]; exact small3 (Nat.le_trans vwL_few (by omega)))
  have HXM : Hid (XS.length ≤ 1000) := Lib.hid (by rw [← hXS]; exact Nat.le_trans vwL_few (by omega))
  have HXS := Lib.hid hXS
  clear hXS
  have HM0 := Lib.hid m0
  clear m0
  unfold maxLen at m1
  have SS0 : Hid (Sx w [] [] w) := Lib.hid (Sx.start w)
  have SS1 : Hid (Sx w [(w.heap.size, [.int .i64 p0, .slice a0 x0.length c0])] [] (w.alloc (.cells #[.int .i64 p0, .slice a0 x0.length c0] 24))) := Lib.hid (SS0.out.made [.int .i64 p0, .slice a0 x0.length c0] 24)
  clear SS0
  by_cases s1 : x1.length ≤ 1048576
  case neg =>
    go_enter Try.func7, Try.ntmps7
    go_wp2
    go_ret
    exact ⟨rfl, SS1.out.be⟩
  obtain ⟨w1, hw1⟩ : ∃ z, z = (w.alloc (.cells #[.int .i64 p0, .slice a0 x0.length c0] 24)) := ⟨_, rfl⟩
  have S1 : Hid (Sx w [(w.heap.size, [.int .i64 p0, .slice a0 x0.length c0])] [] w1) := Lib.hid (by rw [hw1]; exact SS1.out)
  have Z1 : Hid (w1.heap.size = w.heap.size + 1) := Lib.hid (by rw [hw1]; simp)
  have Hw1 := Lib.hid hw1
  clear hw1 SS1
  go_enter Try.func7, Try.ntmps7
  go_wp2_with fail
  rw [← Hw1.out]
  refine (szgr_any p0 a0 x0.length c0 1048576 _ HM0.out (by omega) (by omega)).mono ?_
  rintro e w2 ⟨r0, rfl, hb, hres⟩
  have S2 := Lib.hid (S1.out.on hb)
  clear S1
  have Z2 : Hid (w1.heap.size ≤ w2.heap.size) := Lib.hid (hb.size)
  clear hb
  rcases hres with rfl | ⟨ra0, rb0, s0⟩
  · go_wp2
    go_ret
    exact ⟨rfl, S2.out.be⟩
  have rc0 : r0 ≤ 1048576 := by omega
  have qH0_0 := (S2.out.bx _ (.head _)).cell 0
  have qH0_1 := (S2.out.bx _ (.head _)).cell 1
  simp at qH0_0 qH0_1
  go_wp2_with fail
  refine (togr_any p0 a0 c0 x0 _ (HA0.out.on S2.out.be) s0).mono ?_
  rintro e w3 ⟨v9, rfl, oo, hb⟩
  clear qH0_0 qH0_1
  have S3 := Lib.hid (S2.out.on hb)
  clear S2
  have hz := hb.size
  obtain ⟨Azc0, Czc0, ef⟩ := Own.form oo
  subst ef
  have S4 := Lib.hid (S3.out.add (Hl.mk1 oo))
  clear S3
  have Z3 : Hid (w2.heap.size ≤ w3.heap.size) := Lib.hid (hz)
  clear hb oo hz
  go_wp2_with fail
  refine (toI_any a1 c1 x1 _ (HA1.out.on S4.out.be) s1).mono ?_
  rintro e w4 ⟨v9, rfl, oo, hb⟩
  have S5 := Lib.hid (S4.out.on hb)
  clear S4
  have hz := hb.size
  obtain ⟨Azc1, Czc1, ef⟩ := Own.form oo
  subst ef
  have S6 := Lib.hid (S5.out.add (Hl.mk1 oo))
  clear S5
  have Z4 : Hid (w3.heap.size ≤ w4.heap.size) := Lib.hid (hz)
  clear hb oo hz
  go_wp2_with fail
  refine (svw_any p0 n2 _ _ x0 x1 _ (Ints.of_own (S6.out.ls _ (.tail _ (.head _))).1 (small20 s0)) (Ints.of_own (S6.out.ls _ (.head _)).1 (small20 s1)) IP0.out IX0.out).mono ?_
  rintro e w5 ⟨v9, rfl, oo, hb⟩
  try rw [HXS.out] at oo
  have S7 := Lib.hid (S6.out.on hb)
  clear S6
  have hz := hb.size
  obtain ⟨Azr, Czr, ef⟩ := Own.form oo
  subst ef
  have S8 := Lib.hid (S7.out.add (Hl.mk1 oo))
  clear S7
  clear oo
  have Z5 : Hid (w4.heap.size ≤ w5.heap.size) := Lib.hid (hz)
  clear hb hz
  have qH0_0 := (S8.out.bx _ (.head _)).cell 0
  have qH0_1 := (S8.out.bx _ (.head _)).cell 1
  simp at qH0_0 qH0_1
  go_wp2_with fail
  refine (togr_any p0 a0 c0 x0 _ (HA0.out.on S8.out.be) s0).mono ?_
  rintro e w6 ⟨v9, rfl, oo, hb⟩
  clear qH0_0 qH0_1
  have S9 := Lib.hid (S8.out.on hb)
  clear S8
  have hz := hb.size
  obtain ⟨Ax0, Cx0, ef⟩ := Own.form oo
  subst ef
  have S10 := Lib.hid (S9.out.add (Hl.mk1 oo))
  clear S9
  have Z6 : Hid (w5.heap.size ≤ w6.heap.size) := Lib.hid (hz)
  clear hb oo hz
  obtain ⟨w7, hw7⟩ : ∃ z, z = w6.alloc (.cells #[.int .i64 p0, .slice Ax0 x0.length Cx0] 28) := ⟨_, rfl⟩
  have S11 : Hid (Sx w [(w6.heap.size, [.int .i64 p0, .slice Ax0 x0.length Cx0]), (w.heap.size, [.int .i64 p0, .slice a0 x0.length c0])] [.l w5.heap.size w6.heap.size (.slice Ax0 x0.length Cx0) x0, .l w4.heap.size w5.heap.size (.slice Azr XS.length Czr) XS, .l w3.heap.size w4.heap.size (.slice Azc1 x1.length Czc1) x1, .l w2.heap.size w3.heap.size (.slice Azc0 x0.length Czc0) x0] w7) := Lib.hid (by rw [hw7]; exact S10.out.made [.int .i64 p0, .slice Ax0 x0.length Cx0] _)
  clear S10
  have Z7 : Hid (w7.heap.size = w6.heap.size + 1) := Lib.hid (by rw [hw7]; simp)
  have Hw7 := Lib.hid hw7
  clear hw7
  go_wp2_with fail
  rw [← Hw7.out]
  refine (toI_any a1 c1 x1 _ (HA1.out.on S11.out.be) s1).mono ?_
  rintro e w8 ⟨v9, rfl, oo, hb⟩
  have S12 := Lib.hid (S11.out.on hb)
  clear S11
  have hz := hb.size
  obtain ⟨Ax1, Cx1, ef⟩ := Own.form oo
  subst ef
  have S13 := Lib.hid (S12.out.add (Hl.mk1 oo))
  clear S12
  have Z8 : Hid (w7.heap.size ≤ w8.heap.size) := Lib.hid (hz)
  clear hb oo hz
  have qx0_0 := (S13.out.bx _ (.head _)).cell 0
  have qx0_1 := (S13.out.bx _ (.head _)).cell 1
  simp at qx0_0 qx0_1
  go_wp2_with fail
  refine (ivw_any p0 n2 _ _ x0 x1 _ (Ints.of_own (S13.out.ls _ (.tail _ (.head _))).1 (small20 s0)) (Ints.of_own (S13.out.ls _ (.head _)).1 (small20 s1)) IX0.out).mono ?_
  rintro e w9 ⟨v9, rfl, oo, hb⟩
  clear qx0_0 qx0_1
  try rw [HXS.out] at oo
  have S14 := Lib.hid (S13.out.on hb)
  clear S13
  have hz := hb.size
  obtain ⟨Agr, Cgr, ef⟩ := Own.form oo
  subst ef
  have S15 := Lib.hid (S14.out.add (Hl.mk1 oo))
  clear S14
  clear oo
  have Z9 : Hid (w8.heap.size ≤ w9.heap.size) := Lib.hid (hz)
  clear hb hz
  go_wp2_with fail
  refine (eqI_any _ _ XS _ (Ints.of_own (S15.out.ls _ (.head _)).1 HXL.out) (Ints.of_own (S15.out.ls _ (.tail _ (.tail _ (.tail _ (.head _))))).1 HXL.out)).mono ?_
  rintro e w10 ⟨rfl, hb⟩
  have S16 := Lib.hid (S15.out.on hb)
  clear S15
  have Z10 : Hid (w9.heap.size ≤ w10.heap.size) := Lib.hid (hb.size)
  clear hb
  go_wp2_with fail
  apply wp_region_H (Z := List Cp × Option (Nat × List Value)) (S := fun k => k == 2 || k == 3 || k == 4) (C := fun z w' => Hid (Zx w10 z.1 z.2 w')) [0, 1] ([], none)
  · kernel_rfl
  · kernel_rfl
  · kernel_rfl
  · exact ⟨rfl, rfl, trivial⟩
  · rfl
  · decide
  · exact Lib.hid (Zx.start (Below.refl _ _).drew)
  · intro z
    dsimp only [pickL, nthO]
    go_big_quiet_want
    go_big_quiet_op
    refine ⟨.agg #[.int .i64 p0, .slice Ax0 x0.length Cx0], fun w' hw' => ?_, ?_⟩
    · have q9 := (S16.out.on hw'.out.be).bx _ (.head _)
      have q0 := q9.cell 0
      have q1 := q9.cell 1
      simp at q0 q1
      simp [go_sem, q0, q1]
    go_big_quiet_on
    go_big_quiet_want
    go_big_quiet_op
    refine ⟨.agg #[.int .i64 p0, .slice a0 x0.length c0], fun w' hw' => ?_, ?_⟩
    · have q9 := (S16.out.on hw'.out.be).bx _ (.tail _ (.head _))
      have q0 := q9.cell 0
      have q1 := q9.cell 1
      simp at q0 q1
      simp [go_sem, q0, q1]
    go_big_quiet_on
    exact wpQuiet_nil rfl
  · skip
    refine wpAnyH_call (i := 2) (d := some 44) 17 #[.agg #[.int .i64 p0, .slice a0 x0.length c0]] rfl (by kernel_rfl) rfl rfl (by kernel_rfl) (fun _ => by kernel_rfl) fun wae0 hc => ?_
    refine (togr_any p0 a0 c0 x0 wae0 (HA0.out.on (S16.out.on hc.out.be).be) s0).mono ?_
    rintro e wbe0 ⟨ve0, rfl, oo, hb⟩
    refine ⟨_, rfl, ([.l wae0.heap.size wbe0.heap.size ve0 x0], none), Lib.hid (hc.out.add hb (Hl.mk1 oo) (Nat.le_refl _)), ?_⟩
    clear oo hb hc
    refine wpAnyH_call (i := 3) (d := some 45) 21 #[.agg #[.int .i64 p0, .slice Ax0 x0.length Cx0], .agg #[.int .i64 p0, ve0]] rfl (by kernel_rfl) rfl rfl (by kernel_rfl) (fun _ => by kernel_rfl) fun wc hc => ?_
    refine (eqgr_any p0 _ _ x0 wc (Ints.of_own ((Lib.hid (S16.out.on hc.out.be)).out.ls _ (.tail _ (.tail _ (.head _)))).1 (small20 s0)) (Ints.of_own (hc.out.ls _ (.head _)).1 (small20 s0))).mono ?_
    rintro e wd ⟨rfl, hb⟩
    refine ⟨_, rfl, ([], none), Lib.hid ((hc.out.on hb).sub (fun _ m => (by cases m))), ?_⟩
    clear hb hc
    refine wpAnyH_special (i := 4) (d := some 46) rfl (by kernel_rfl) rfl rfl (by kernel_rfl) fun wy hcy => ⟨.bool false, wy, ([], none), .inl (by kernel_rfl), hcy, ?_⟩
    refine ⟨by kernel_rfl, fun w11 hz => ?_⟩
    simp only [Act.put, List.setIfInBounds_toArray, List.set_cons_zero, List.set_cons_succ]
    have S17 := Lib.hid (S16.out.on hz.out.be)
    clear S16
    have Z11 : Hid (w10.heap.size ≤ w11.heap.size) := Lib.hid (hz.out.be.size)
    clear hz hcy
    go_wp2_with fail
    refine (toI_any a1 c1 x1 _ (HA1.out.on S17.out.be) s1).mono ?_
    rintro e w12 ⟨v9, rfl, oo, hb⟩
    have I9 := Lib.hid (Ints.of_own oo (small20 s1))
    have S18 := Lib.hid (S17.out.on hb)
    clear S17
    have Z12 : Hid (w11.heap.size ≤ w12.heap.size) := Lib.hid (hb.size)
    clear hb oo
    go_wp2_with fail
    refine (eqI_any _ v9 x1 _ (Ints.of_own (S18.out.ls _ (.tail _ (.head _))).1 (small20 s1)) I9.out).mono ?_
    rintro e w13 ⟨rfl, hb⟩
    have S19 := Lib.hid (S18.out.on hb)
    clear S18
    have Z13 : Hid (w12.heap.size ≤ w13.heap.size) := Lib.hid (hb.size)
    clear hb I9
    have qx0_0 := (S19.out.bx _ (.head _)).cell 0
    have qx0_1 := (S19.out.bx _ (.head _)).cell 1
    simp at qx0_0 qx0_1
    go_wp2_with fail
    refine (mkgr_any p0 w5.heap.size w6.heap.size _ x0 1 _ (S19.out.ls _ (.tail _ (.tail _ (.head _)))) (by omega) (by omega) (by omega)).mono ?_
    rintro e w14 ⟨rfl, hh, ho⟩
    clear qx0_0 qx0_1
    have S20 := Lib.hid (Sx.markAt (L1 := [.l w8.heap.size w9.heap.size (.slice Agr XS.length Cgr) XS, .l w7.heap.size w8.heap.size (.slice Ax1 x1.length Cx1) x1]) (L2 := [.l w4.heap.size w5.heap.size (.slice Azr XS.length Czr) XS, .l w3.heap.size w4.heap.size (.slice Azc1 x1.length Czc1) x1, .l w2.heap.size w3.heap.size (.slice Azc0 x0.length Czc0) x0]) (c := .l w5.heap.size w6.heap.size (.slice Ax0 x0.length Cx0) x0) (c' := .l w5.heap.size w6.heap.size (.slice Ax0 x0.length Cx0) (markTo x0 1 x0.length)) S19.out ho hh (by have := Z1.out; have := Z2.out; have := Z3.out; have := Z4.out; have := Z5.out; have := Z6.out; have := Z7.out; have := Z8.out; have := Z9.out; have := Z10.out; have := Z11.out; have := Z12.out; have := Z13.out; omega) (by have := Z1.out; have := Z2.out; have := Z3.out; have := Z4.out; have := Z5.out; have := Z6.out; have := Z7.out; have := Z8.out; have := Z9.out; have := Z10.out; have := Z11.out; have := Z12.out; have := Z13.out; omega) (all_cons (by show w6.heap.size < w5.heap.size ∨ w6.heap.size ≤ w6.heap.size; have := Z1.out; have := Z2.out; have := Z3.out; have := Z4.out; have := Z5.out; have := Z6.out; have := Z7.out; have := Z8.out; have := Z9.out; have := Z10.out; have := Z11.out; have := Z12.out; have := Z13.out; omega) (all_cons (by show w.heap.size < w5.heap.size ∨ w6.heap.size ≤ w.heap.size; have := Z1.out; have := Z2.out; have := Z3.out; have := Z4.out; have := Z5.out; have := Z6.out; have := Z7.out; have := Z8.out; have := Z9.out; have := Z10.out; have := Z11.out; have := Z12.out; have := Z13.out; omega) all_nil)) (all_cons (by show w9.heap.size ≤ w5.heap.size ∨ w6.heap.size ≤ w8.heap.size; have := Z1.out; have := Z2.out; have := Z3.out; have := Z4.out; have := Z5.out; have := Z6.out; have := Z7.out; have := Z8.out; have := Z9.out; have := Z10.out; have := Z11.out; have := Z12.out; have := Z13.out; omega) (all_cons (by show w8.heap.size ≤ w5.heap.size ∨ w6.heap.size ≤ w7.heap.size; have := Z1.out; have := Z2.out; have := Z3.out; have := Z4.out; have := Z5.out; have := Z6.out; have := Z7.out; have := Z8.out; have := Z9.out; have := Z10.out; have := Z11.out; have := Z12.out; have := Z13.out; omega) (all_cons (by show w5.heap.size ≤ w5.heap.size ∨ w6.heap.size ≤ w4.heap.size; have := Z1.out; have := Z2.out; have := Z3.out; have := Z4.out; have := Z5.out; have := Z6.out; have := Z7.out; have := Z8.out; have := Z9.out; have := Z10.out; have := Z11.out; have := Z12.out; have := Z13.out; omega) (all_cons (by show w4.heap.size ≤ w5.heap.size ∨ w6.heap.size ≤ w3.heap.size; have := Z1.out; have := Z2.out; have := Z3.out; have := Z4.out; have := Z5.out; have := Z6.out; have := Z7.out; have := Z8.out; have := Z9.out; have := Z10.out; have := Z11.out; have := Z12.out; have := Z13.out; omega) (all_cons (by show w3.heap.size ≤ w5.heap.size ∨ w6.heap.size ≤ w2.heap.size; have := Z1.out; have := Z2.out; have := Z3.out; have := Z4.out; have := Z5.out; have := Z6.out; have := Z7.out; have := Z8.out; have := Z9.out; have := Z10.out; have := Z11.out; have := Z12.out; have := Z13.out; omega) all_nil))))))
    clear S19
    have Z14 : Hid (w13.heap.size ≤ w14.heap.size) := Lib.hid (ho.size)
    clear hh ho
    obtain ⟨K1, hK⟩ : ∃ K : Int, 1 + (x0.length : Int) = K := ⟨_, rfl⟩
    have K1a : 0 ≤ K1 := by omega
    have K1b : K1 ≤ 3000000 := by omega
    rw [hK]
    have HK_1 := Lib.hid hK
    clear hK
    go_wp2_with fail
    refine (mkI_any w7.heap.size w8.heap.size _ x1 K1 _ (S20.out.ls _ (.tail _ (.head _))) (by omega) (by omega) (by omega)).mono ?_
    rintro e w15 ⟨rfl, hh, ho⟩
    have S21 := Lib.hid (Sx.markAt (L1 := [.l w8.heap.size w9.heap.size (.slice Agr XS.length Cgr) XS]) (L2 := [.l w5.heap.size w6.heap.size (.slice Ax0 x0.length Cx0) (markTo x0 1 x0.length), .l w4.heap.size w5.heap.size (.slice Azr XS.length Czr) XS, .l w3.heap.size w4.heap.size (.slice Azc1 x1.length Czc1) x1, .l w2.heap.size w3.heap.size (.slice Azc0 x0.length Czc0) x0]) (c := .l w7.heap.size w8.heap.size (.slice Ax1 x1.length Cx1) x1) (c' := .l w7.heap.size w8.heap.size (.slice Ax1 x1.length Cx1) (markTo x1 K1 x1.length)) S20.out ho hh (by have := Z1.out; have := Z2.out; have := Z3.out; have := Z4.out; have := Z5.out; have := Z6.out; have := Z7.out; have := Z8.out; have := Z9.out; have := Z10.out; have := Z11.out; have := Z12.out; have := Z13.out; have := Z14.out; omega) (by have := Z1.out; have := Z2.out; have := Z3.out; have := Z4.out; have := Z5.out; have := Z6.out; have := Z7.out; have := Z8.out; have := Z9.out; have := Z10.out; have := Z11.out; have := Z12.out; have := Z13.out; have := Z14.out; omega) (all_cons (by show w6.heap.size < w7.heap.size ∨ w8.heap.size ≤ w6.heap.size; have := Z1.out; have := Z2.out; have := Z3.out; have := Z4.out; have := Z5.out; have := Z6.out; have := Z7.out; have := Z8.out; have := Z9.out; have := Z10.out; have := Z11.out; have := Z12.out; have := Z13.out; have := Z14.out; omega) (all_cons (by show w.heap.size < w7.heap.size ∨ w8.heap.size ≤ w.heap.size; have := Z1.out; have := Z2.out; have := Z3.out; have := Z4.out; have := Z5.out; have := Z6.out; have := Z7.out; have := Z8.out; have := Z9.out; have := Z10.out; have := Z11.out; have := Z12.out; have := Z13.out; have := Z14.out; omega) all_nil)) (all_cons (by show w9.heap.size ≤ w7.heap.size ∨ w8.heap.size ≤ w8.heap.size; have := Z1.out; have := Z2.out; have := Z3.out; have := Z4.out; have := Z5.out; have := Z6.out; have := Z7.out; have := Z8.out; have := Z9.out; have := Z10.out; have := Z11.out; have := Z12.out; have := Z13.out; have := Z14.out; omega) (all_cons (by show w6.heap.size ≤ w7.heap.size ∨ w8.heap.size ≤ w5.heap.size; have := Z1.out; have := Z2.out; have := Z3.out; have := Z4.out; have := Z5.out; have := Z6.out; have := Z7.out; have := Z8.out; have := Z9.out; have := Z10.out; have := Z11.out; have := Z12.out; have := Z13.out; have := Z14.out; omega) (all_cons (by show w5.heap.size ≤ w7.heap.size ∨ w8.heap.size ≤ w4.heap.size; have := Z1.out; have := Z2.out; have := Z3.out; have := Z4.out; have := Z5.out; have := Z6.out; have := Z7.out; have := Z8.out; have := Z9.out; have := Z10.out; have := Z11.out; have := Z12.out; have := Z13.out; have := Z14.out; omega) (all_cons (by show w4.heap.size ≤ w7.heap.size ∨ w8.heap.size ≤ w3.heap.size; have := Z1.out; have := Z2.out; have := Z3.out; have := Z4.out; have := Z5.out; have := Z6.out; have := Z7.out; have := Z8.out; have := Z9.out; have := Z10.out; have := Z11.out; have := Z12.out; have := Z13.out; have := Z14.out; omega) (all_cons (by show w3.heap.size ≤ w7.heap.size ∨ w8.heap.size ≤ w2.heap.size; have := Z1.out; have := Z2.out; have := Z3.out; have := Z4.out; have := Z5.out; have := Z6.out; have := Z7.out; have := Z8.out; have := Z9.out; have := Z10.out; have := Z11.out; have := Z12.out; have := Z13.out; have := Z14.out; omega) all_nil))))))
    clear S20
    have Z15 : Hid (w14.heap.size ≤ w15.heap.size) := Lib.hid (ho.size)
    clear hh ho
    obtain ⟨K2, hK⟩ : ∃ K : Int, K1 + (x1.length : Int) = K := ⟨_, rfl⟩
    have K2a : 0 ≤ K2 := by omega
    have K2b : K2 ≤ 6000000 := by omega
    rw [hK]
    have HK_2 := Lib.hid hK
    clear hK
    have hk0 : ¬ K2 < 0 := by omega
    have hkd : decide (K2 < 0) = false := by simp; omega
    go_wp2_with fail
    refine (eqI_any _ _ XS _ (Ints.of_own (S21.out.ls _ (.head _)).1 HXL.out) (Ints.of_own (S21.out.ls _ (.tail _ (.tail _ (.tail _ (.head _))))).1 HXL.out)).mono ?_
    rintro e w16 ⟨rfl, hb⟩
    have S22 := Lib.hid (S21.out.on hb)
    clear S21
    have Z16 : Hid (w15.heap.size ≤ w16.heap.size) := Lib.hid (hb.size)
    clear hb
    have hxm := HXM.out
    go_wp2_with fail
    refine (mkI_any w8.heap.size w9.heap.size _ XS 1 _ (S22.out.ls _ (.head _)) (by omega) (by omega) (by omega)).mono ?_
    rintro e w17 ⟨rfl, hh, ho⟩
    have S23 := Lib.hid (Sx.markAt (L1 := []) (L2 := [.l w7.heap.size w8.heap.size (.slice Ax1 x1.length Cx1) (markTo x1 K1 x1.length), .l w5.heap.size w6.heap.size (.slice Ax0 x0.length Cx0) (markTo x0 1 x0.length), .l w4.heap.size w5.heap.size (.slice Azr XS.length Czr) XS, .l w3.heap.size w4.heap.size (.slice Azc1 x1.length Czc1) x1, .l w2.heap.size w3.heap.size (.slice Azc0 x0.length Czc0) x0]) (c := .l w8.heap.size w9.heap.size (.slice Agr XS.length Cgr) XS) (c' := .l w8.heap.size w9.heap.size (.slice Agr XS.length Cgr) (markTo XS 1 XS.length)) S22.out ho hh (by have := Z1.out; have := Z2.out; have := Z3.out; have := Z4.out; have := Z5.out; have := Z6.out; have := Z7.out; have := Z8.out; have := Z9.out; have := Z10.out; have := Z11.out; have := Z12.out; have := Z13.out; have := Z14.out; have := Z15.out; have := Z16.out; omega) (by have := Z1.out; have := Z2.out; have := Z3.out; have := Z4.out; have := Z5.out; have := Z6.out; have := Z7.out; have := Z8.out; have := Z9.out; have := Z10.out; have := Z11.out; have := Z12.out; have := Z13.out; have := Z14.out; have := Z15.out; have := Z16.out; omega) (all_cons (by show w6.heap.size < w8.heap.size ∨ w9.heap.size ≤ w6.heap.size; have := Z1.out; have := Z2.out; have := Z3.out; have := Z4.out; have := Z5.out; have := Z6.out; have := Z7.out; have := Z8.out; have := Z9.out; have := Z10.out; have := Z11.out; have := Z12.out; have := Z13.out; have := Z14.out; have := Z15.out; have := Z16.out; omega) (all_cons (by show w.heap.size < w8.heap.size ∨ w9.heap.size ≤ w.heap.size; have := Z1.out; have := Z2.out; have := Z3.out; have := Z4.out; have := Z5.out; have := Z6.out; have := Z7.out; have := Z8.out; have := Z9.out; have := Z10.out; have := Z11.out; have := Z12.out; have := Z13.out; have := Z14.out; have := Z15.out; have := Z16.out; omega) all_nil)) (all_cons (by show w8.heap.size ≤ w8.heap.size ∨ w9.heap.size ≤ w7.heap.size; have := Z1.out; have := Z2.out; have := Z3.out; have := Z4.out; have := Z5.out; have := Z6.out; have := Z7.out; have := Z8.out; have := Z9.out; have := Z10.out; have := Z11.out; have := Z12.out; have := Z13.out; have := Z14.out; have := Z15.out; have := Z16.out; omega) (all_cons (by show w6.heap.size ≤ w8.heap.size ∨ w9.heap.size ≤ w5.heap.size; have := Z1.out; have := Z2.out; have := Z3.out; have := Z4.out; have := Z5.out; have := Z6.out; have := Z7.out; have := Z8.out; have := Z9.out; have := Z10.out; have := Z11.out; have := Z12.out; have := Z13.out; have := Z14.out; have := Z15.out; have := Z16.out; omega) (all_cons (by show w5.heap.size ≤ w8.heap.size ∨ w9.heap.size ≤ w4.heap.size; have := Z1.out; have := Z2.out; have := Z3.out; have := Z4.out; have := Z5.out; have := Z6.out; have := Z7.out; have := Z8.out; have := Z9.out; have := Z10.out; have := Z11.out; have := Z12.out; have := Z13.out; have := Z14.out; have := Z15.out; have := Z16.out; omega) (all_cons (by show w4.heap.size ≤ w8.heap.size ∨ w9.heap.size ≤ w3.heap.size; have := Z1.out; have := Z2.out; have := Z3.out; have := Z4.out; have := Z5.out; have := Z6.out; have := Z7.out; have := Z8.out; have := Z9.out; have := Z10.out; have := Z11.out; have := Z12.out; have := Z13.out; have := Z14.out; have := Z15.out; have := Z16.out; omega) (all_cons (by show w3.heap.size ≤ w8.heap.size ∨ w9.heap.size ≤ w2.heap.size; have := Z1.out; have := Z2.out; have := Z3.out; have := Z4.out; have := Z5.out; have := Z6.out; have := Z7.out; have := Z8.out; have := Z9.out; have := Z10.out; have := Z11.out; have := Z12.out; have := Z13.out; have := Z14.out; have := Z15.out; have := Z16.out; omega) all_nil))))))
    clear S22
    have Z17 : Hid (w16.heap.size ≤ w17.heap.size) := Lib.hid (ho.size)
    clear hh ho
    obtain ⟨K3, hK⟩ : ∃ K : Int, 1 + (XS.length : Int) = K := ⟨_, rfl⟩
    have K3a : 0 ≤ K3 := by omega
    have K3b : K3 ≤ 9000000 := by omega
    rw [hK]
    have HK_3 := Lib.hid hK
    clear hK
    have hm0 : ¬ K3 < 0 := by omega
    have hmn : (K3 != K3) = false := by simp
    go_wp2_with fail
    refine (hdI_any _ XS 1 _ (Ints.of_own (S23.out.ls _ (.head _)).1 (by rw [markTo_len]; exact HXL.out)) (by omega) (by omega) (by omega)).mono ?_
    rintro e w18 ⟨rfl, hb⟩
    rw [HK_3.out]
    have S24 := Lib.hid (S23.out.on hb)
    clear S23
    have Z18 : Hid (w17.heap.size ≤ w18.heap.size) := Lib.hid (hb.size)
    clear hb
    have qH0_0 := (S24.out.bx _ (.tail _ (.head _))).cell 0
    have qH0_1 := (S24.out.bx _ (.tail _ (.head _))).cell 1
    simp at qH0_0 qH0_1
    go_wp2_with fail
    refine (togr_any p0 a0 c0 x0 _ (HA0.out.on S24.out.be) s0).mono ?_
    rintro e w19 ⟨v9, rfl, oo, hb⟩
    clear qH0_0 qH0_1
    have S25 := Lib.hid (S24.out.on hb)
    clear S24
    have hz := hb.size
    obtain ⟨Ayc0, Cyc0, ef⟩ := Own.form oo
    subst ef
    have S26 := Lib.hid (S25.out.add (Hl.mk1 oo))
    clear S25
    have Z19 : Hid (w18.heap.size ≤ w19.heap.size) := Lib.hid (hz)
    clear hb oo hz
    go_wp2_with fail
    refine (toI_any a1 c1 x1 _ (HA1.out.on S26.out.be) s1).mono ?_
    rintro e w20 ⟨v9, rfl, oo, hb⟩
    have S27 := Lib.hid (S26.out.on hb)
    clear S26
    have hz := hb.size
    obtain ⟨Ayc1, Cyc1, ef⟩ := Own.form oo
    subst ef
    have S28 := Lib.hid (S27.out.add (Hl.mk1 oo))
    clear S27
    have Z20 : Hid (w19.heap.size ≤ w20.heap.size) := Lib.hid (hz)
    clear hb oo hz
    go_wp2_with fail
    refine (ivw_any p0 n2 _ _ x0 x1 _ (Ints.of_own (S28.out.ls _ (.tail _ (.head _))).1 (small20 s0)) (Ints.of_own (S28.out.ls _ (.head _)).1 (small20 s1)) IX0.out).mono ?_
    rintro e w21 ⟨v9, rfl, oo, hb⟩
    try rw [HXS.out] at oo
    have S29 := Lib.hid (S28.out.on hb)
    clear S28
    have hz := hb.size
    obtain ⟨Ayr, Cyr, ef⟩ := Own.form oo
    subst ef
    have S30 := Lib.hid (S29.out.add (Hl.mk1 oo))
    clear S29
    clear oo
    have Z21 : Hid (w20.heap.size ≤ w21.heap.size) := Lib.hid (hz)
    clear hb hz
    go_wp2_with fail
    refine (eqI_any _ _ XS _ (Ints.of_own (S30.out.ls _ (.head _)).1 HXL.out) (Ints.of_own (S30.out.ls _ (.tail _ (.tail _ (.tail _ (.tail _ (.tail _ (.tail _ (.head _)))))))).1 HXL.out)).mono ?_
    rintro e w22 ⟨rfl, hb⟩
    have S31 := Lib.hid (S30.out.on hb)
    clear S30
    have Z22 : Hid (w21.heap.size ≤ w22.heap.size) := Lib.hid (hb.size)
    clear hb
    go_wp2_with fail
    refine (hdI_any _ XS 1 _ (Ints.of_own (S31.out.ls _ (.tail _ (.tail _ (.tail _ (.head _))))).1 (by rw [markTo_len]; exact HXL.out)) (by omega) (by omega) (by omega)).mono ?_
    rintro e w23 ⟨rfl, hb⟩
    rw [HK_3.out]
    have S32 := Lib.hid (S31.out.on hb)
    clear S31
    have Z23 : Hid (w22.heap.size ≤ w23.heap.size) := Lib.hid (hb.size)
    clear hb
    go_wp2
    go_ret
    exact ⟨rfl, S32.out.be⟩
end Go.Proofs.Ytimkmdedoacpfaa
