/- The exact law of OrderThen, walked: spec's answer, impl's answer, and that both are the same; no argument is written to; the answer owns its memory. -/
import Derived.Test.YtipndddmjgjgpaaTrnX
import Derived.Test.YtipndddmjgjgpaaGrC
import Derived.Test.YtipndddmjgjgpaaRegionL
import Derived.Deep.Cut
namespace Go.Proofs.Ytipndddmjgjgpaa
open Go.RowKit

set_option maxRecDepth 100000 in
set_option maxHeartbeats 12800000 in
theorem xOrderThen_walk (a0 : Option Addr) (c0 : Nat) (x0 : List Int) (a1 : Option Addr) (c1 : Nat) (x1 : List Int) (w : World) (h0 : ArgI w a0 x0) (m0 : x0.length ≤ maxLen) (h1 : ArgI w a1 x1) (m1 : x1.length ≤ maxLen) :
    Calls Try.prog 6 #[.slice a0 x0.length c0, .slice a1 x1.length c1] w fun e w' => e = .returned (.bool true) ∧ Below w.heap.size w w' := by
  have HA0 := Lib.hid h0
  clear h0
  have HA1 := Lib.hid h1
  clear h1
  obtain ⟨XS, hXS⟩ : ∃ r, thL x0 x1 = r := ⟨_, rfl⟩
  have HXL : Hid (XS.length ≤ maxLen) := Lib.hid (by rw [← hXS]; exact few5 thL_few)
  have HXM : Hid (XS.length ≤ 1000) := Lib.hid (by rw [← hXS]; exact Nat.le_trans thL_few (by omega))
  have HXS := Lib.hid hXS
  clear hXS
  unfold maxLen at m0 m1
  have SS0 : Hid (Sx w [] [] w) := Lib.hid (Sx.start w)
  by_cases s0 : x0.length ≤ 1048576
  case neg =>
    go_enter Try.func6, Try.ntmps6
    go_wp2
    go_ret
    exact ⟨rfl, SS0.out.be⟩
  by_cases s1 : x1.length ≤ 1048576
  case neg =>
    go_enter Try.func6, Try.ntmps6
    go_wp2
    go_ret
    exact ⟨rfl, SS0.out.be⟩
  have S1 := Lib.hid SS0.out
  have Z1 : Hid (w.heap.size ≤ w.heap.size) := Lib.hid (Nat.le_refl _)
  clear SS0
  go_enter Try.func6, Try.ntmps6
  go_wp2_with fail
  refine (toI_any a0 c0 x0 _ (HA0.out.on S1.out.be) s0).mono ?_
  rintro e w2 ⟨v9, rfl, oo, hb⟩
  have S2 := Lib.hid (S1.out.on hb)
  clear S1
  have hz := hb.size
  obtain ⟨Azc0, Czc0, ef⟩ := Own.form oo
  subst ef
  have S3 := Lib.hid (S2.out.add (Hl.mk1 oo))
  clear S2
  have Z2 : Hid (w.heap.size ≤ w2.heap.size) := Lib.hid (hz)
  clear hb oo hz
  go_wp2_with fail
  refine (toI_any a1 c1 x1 _ (HA1.out.on S3.out.be) s1).mono ?_
  rintro e w3 ⟨v9, rfl, oo, hb⟩
  have S4 := Lib.hid (S3.out.on hb)
  clear S3
  have hz := hb.size
  obtain ⟨Azc1, Czc1, ef⟩ := Own.form oo
  subst ef
  have S5 := Lib.hid (S4.out.add (Hl.mk1 oo))
  clear S4
  have Z3 : Hid (w2.heap.size ≤ w3.heap.size) := Lib.hid (hz)
  clear hb oo hz
  go_wp2_with fail
  refine (sthn_any _ _ x0 x1 _ (Ints.of_own (S5.out.ls _ (.tail _ (.head _))).1 (small20 s0)) (Ints.of_own (S5.out.ls _ (.head _)).1 (small20 s1))).mono ?_
  rintro e w4 ⟨v9, rfl, oo, hb⟩
  try rw [HXS.out] at oo
  have S6 := Lib.hid (S5.out.on hb)
  clear S5
  have hz := hb.size
  obtain ⟨Azr, Czr, ef⟩ := Own.form oo
  subst ef
  have S7 := Lib.hid (S6.out.add (Hl.mk1 oo))
  clear S6
  clear oo
  have Z4 : Hid (w3.heap.size ≤ w4.heap.size) := Lib.hid (hz)
  clear hb hz
  go_wp2_with fail
  refine (toI_any a0 c0 x0 _ (HA0.out.on S7.out.be) s0).mono ?_
  rintro e w5 ⟨v9, rfl, oo, hb⟩
  have S8 := Lib.hid (S7.out.on hb)
  clear S7
  have hz := hb.size
  obtain ⟨Ax0, Cx0, ef⟩ := Own.form oo
  subst ef
  have S9 := Lib.hid (S8.out.add (Hl.mk1 oo))
  clear S8
  have Z5 : Hid (w4.heap.size ≤ w5.heap.size) := Lib.hid (hz)
  clear hb oo hz
  go_wp2_with fail
  refine (toI_any a1 c1 x1 _ (HA1.out.on S9.out.be) s1).mono ?_
  rintro e w6 ⟨v9, rfl, oo, hb⟩
  have S10 := Lib.hid (S9.out.on hb)
  clear S9
  have hz := hb.size
  obtain ⟨Ax1, Cx1, ef⟩ := Own.form oo
  subst ef
  have S11 := Lib.hid (S10.out.add (Hl.mk1 oo))
  clear S10
  have Z6 : Hid (w5.heap.size ≤ w6.heap.size) := Lib.hid (hz)
  clear hb oo hz
  go_wp2_with fail
  refine (ithn_any _ _ x0 x1 _ (Ints.of_own (S11.out.ls _ (.tail _ (.head _))).1 (small20 s0)) (Ints.of_own (S11.out.ls _ (.head _)).1 (small20 s1)) (S11.out.ls _ (.tail _ (.head _))).1.capped (S11.out.ls _ (.head _)).1.capped).mono ?_
  rintro e w7 ⟨v9, rfl, oo, hb⟩
  try rw [HXS.out] at oo
  have S12 := Lib.hid (S11.out.on hb)
  clear S11
  have hz := hb.size
  obtain ⟨Agr, Cgr, ef⟩ := Own.form oo
  subst ef
  have S13 := Lib.hid (S12.out.add (Hl.mk1 oo))
  clear S12
  clear oo
  have Z7 : Hid (w6.heap.size ≤ w7.heap.size) := Lib.hid (hz)
  clear hb hz
  go_wp2_with fail
  refine (eqI_any _ _ XS _ (Ints.of_own (S13.out.ls _ (.head _)).1 HXL.out) (Ints.of_own (S13.out.ls _ (.tail _ (.tail _ (.tail _ (.head _))))).1 HXL.out)).mono ?_
  rintro e w8 ⟨rfl, hb⟩
  have S14 := Lib.hid (S13.out.on hb)
  clear S13
  have Z8 : Hid (w7.heap.size ≤ w8.heap.size) := Lib.hid (hb.size)
  clear hb
  go_wp2_with fail
  refine (toI_any a0 c0 x0 _ (HA0.out.on S14.out.be) s0).mono ?_
  rintro e w9 ⟨v9, rfl, oo, hb⟩
  have I9 := Lib.hid (Ints.of_own oo (small20 s0))
  have S15 := Lib.hid (S14.out.on hb)
  clear S14
  have Z9 : Hid (w8.heap.size ≤ w9.heap.size) := Lib.hid (hb.size)
  clear hb oo
  go_wp2_with fail
  refine (eqI_any _ v9 x0 _ (Ints.of_own (S15.out.ls _ (.tail _ (.tail _ (.head _)))).1 (small20 s0)) I9.out).mono ?_
  rintro e w10 ⟨rfl, hb⟩
  have S16 := Lib.hid (S15.out.on hb)
  clear S15
  have Z10 : Hid (w9.heap.size ≤ w10.heap.size) := Lib.hid (hb.size)
  clear hb I9
  go_wp2_with fail
  refine (toI_any a1 c1 x1 _ (HA1.out.on S16.out.be) s1).mono ?_
  rintro e w11 ⟨v9, rfl, oo, hb⟩
  have I9 := Lib.hid (Ints.of_own oo (small20 s1))
  have S17 := Lib.hid (S16.out.on hb)
  clear S16
  have Z11 : Hid (w10.heap.size ≤ w11.heap.size) := Lib.hid (hb.size)
  clear hb oo
  go_wp2_with fail
  refine (eqI_any _ v9 x1 _ (Ints.of_own (S17.out.ls _ (.tail _ (.head _))).1 (small20 s1)) I9.out).mono ?_
  rintro e w12 ⟨rfl, hb⟩
  have S18 := Lib.hid (S17.out.on hb)
  clear S17
  have Z12 : Hid (w11.heap.size ≤ w12.heap.size) := Lib.hid (hb.size)
  clear hb I9
  go_wp2_with fail
  refine (mkI_any w4.heap.size w5.heap.size _ x0 1 _ (S18.out.ls _ (.tail _ (.tail _ (.head _)))) (by omega) (by omega) (by omega)).mono ?_
  rintro e w13 ⟨rfl, hh, ho⟩
  have S19 := Lib.hid (Sx.markAt (L1 := [.l w6.heap.size w7.heap.size (.slice Agr XS.length Cgr) XS, .l w5.heap.size w6.heap.size (.slice Ax1 x1.length Cx1) x1]) (L2 := [.l w3.heap.size w4.heap.size (.slice Azr XS.length Czr) XS, .l w2.heap.size w3.heap.size (.slice Azc1 x1.length Czc1) x1, .l w.heap.size w2.heap.size (.slice Azc0 x0.length Czc0) x0]) (c := .l w4.heap.size w5.heap.size (.slice Ax0 x0.length Cx0) x0) (c' := .l w4.heap.size w5.heap.size (.slice Ax0 x0.length Cx0) (markTo x0 1 x0.length)) S18.out ho hh (by have := Z1.out; have := Z2.out; have := Z3.out; have := Z4.out; have := Z5.out; have := Z6.out; have := Z7.out; have := Z8.out; have := Z9.out; have := Z10.out; have := Z11.out; have := Z12.out; omega) (by have := Z1.out; have := Z2.out; have := Z3.out; have := Z4.out; have := Z5.out; have := Z6.out; have := Z7.out; have := Z8.out; have := Z9.out; have := Z10.out; have := Z11.out; have := Z12.out; omega) all_nil (all_cons (by show w7.heap.size ≤ w4.heap.size ∨ w5.heap.size ≤ w6.heap.size; have := Z1.out; have := Z2.out; have := Z3.out; have := Z4.out; have := Z5.out; have := Z6.out; have := Z7.out; have := Z8.out; have := Z9.out; have := Z10.out; have := Z11.out; have := Z12.out; omega) (all_cons (by show w6.heap.size ≤ w4.heap.size ∨ w5.heap.size ≤ w5.heap.size; have := Z1.out; have := Z2.out; have := Z3.out; have := Z4.out; have := Z5.out; have := Z6.out; have := Z7.out; have := Z8.out; have := Z9.out; have := Z10.out; have := Z11.out; have := Z12.out; omega) (all_cons (by show w4.heap.size ≤ w4.heap.size ∨ w5.heap.size ≤ w3.heap.size; have := Z1.out; have := Z2.out; have := Z3.out; have := Z4.out; have := Z5.out; have := Z6.out; have := Z7.out; have := Z8.out; have := Z9.out; have := Z10.out; have := Z11.out; have := Z12.out; omega) (all_cons (by show w3.heap.size ≤ w4.heap.size ∨ w5.heap.size ≤ w2.heap.size; have := Z1.out; have := Z2.out; have := Z3.out; have := Z4.out; have := Z5.out; have := Z6.out; have := Z7.out; have := Z8.out; have := Z9.out; have := Z10.out; have := Z11.out; have := Z12.out; omega) (all_cons (by show w2.heap.size ≤ w4.heap.size ∨ w5.heap.size ≤ w.heap.size; have := Z1.out; have := Z2.out; have := Z3.out; have := Z4.out; have := Z5.out; have := Z6.out; have := Z7.out; have := Z8.out; have := Z9.out; have := Z10.out; have := Z11.out; have := Z12.out; omega) all_nil))))))
  clear S18
  have Z13 : Hid (w12.heap.size ≤ w13.heap.size) := Lib.hid (ho.size)
  clear hh ho
  obtain ⟨K1, hK⟩ : ∃ K : Int, 1 + (x0.length : Int) = K := ⟨_, rfl⟩
  have K1a : 0 ≤ K1 := by omega
  have K1b : K1 ≤ 3000000 := by omega
  rw [hK]
  have HK_1 := Lib.hid hK
  clear hK
  go_wp2_with fail
  refine (mkI_any w5.heap.size w6.heap.size _ x1 K1 _ (S19.out.ls _ (.tail _ (.head _))) (by omega) (by omega) (by omega)).mono ?_
  rintro e w14 ⟨rfl, hh, ho⟩
  have S20 := Lib.hid (Sx.markAt (L1 := [.l w6.heap.size w7.heap.size (.slice Agr XS.length Cgr) XS]) (L2 := [.l w4.heap.size w5.heap.size (.slice Ax0 x0.length Cx0) (markTo x0 1 x0.length), .l w3.heap.size w4.heap.size (.slice Azr XS.length Czr) XS, .l w2.heap.size w3.heap.size (.slice Azc1 x1.length Czc1) x1, .l w.heap.size w2.heap.size (.slice Azc0 x0.length Czc0) x0]) (c := .l w5.heap.size w6.heap.size (.slice Ax1 x1.length Cx1) x1) (c' := .l w5.heap.size w6.heap.size (.slice Ax1 x1.length Cx1) (markTo x1 K1 x1.length)) S19.out ho hh (by have := Z1.out; have := Z2.out; have := Z3.out; have := Z4.out; have := Z5.out; have := Z6.out; have := Z7.out; have := Z8.out; have := Z9.out; have := Z10.out; have := Z11.out; have := Z12.out; have := Z13.out; omega) (by have := Z1.out; have := Z2.out; have := Z3.out; have := Z4.out; have := Z5.out; have := Z6.out; have := Z7.out; have := Z8.out; have := Z9.out; have := Z10.out; have := Z11.out; have := Z12.out; have := Z13.out; omega) all_nil (all_cons (by show w7.heap.size ≤ w5.heap.size ∨ w6.heap.size ≤ w6.heap.size; have := Z1.out; have := Z2.out; have := Z3.out; have := Z4.out; have := Z5.out; have := Z6.out; have := Z7.out; have := Z8.out; have := Z9.out; have := Z10.out; have := Z11.out; have := Z12.out; have := Z13.out; omega) (all_cons (by show w5.heap.size ≤ w5.heap.size ∨ w6.heap.size ≤ w4.heap.size; have := Z1.out; have := Z2.out; have := Z3.out; have := Z4.out; have := Z5.out; have := Z6.out; have := Z7.out; have := Z8.out; have := Z9.out; have := Z10.out; have := Z11.out; have := Z12.out; have := Z13.out; omega) (all_cons (by show w4.heap.size ≤ w5.heap.size ∨ w6.heap.size ≤ w3.heap.size; have := Z1.out; have := Z2.out; have := Z3.out; have := Z4.out; have := Z5.out; have := Z6.out; have := Z7.out; have := Z8.out; have := Z9.out; have := Z10.out; have := Z11.out; have := Z12.out; have := Z13.out; omega) (all_cons (by show w3.heap.size ≤ w5.heap.size ∨ w6.heap.size ≤ w2.heap.size; have := Z1.out; have := Z2.out; have := Z3.out; have := Z4.out; have := Z5.out; have := Z6.out; have := Z7.out; have := Z8.out; have := Z9.out; have := Z10.out; have := Z11.out; have := Z12.out; have := Z13.out; omega) (all_cons (by show w2.heap.size ≤ w5.heap.size ∨ w6.heap.size ≤ w.heap.size; have := Z1.out; have := Z2.out; have := Z3.out; have := Z4.out; have := Z5.out; have := Z6.out; have := Z7.out; have := Z8.out; have := Z9.out; have := Z10.out; have := Z11.out; have := Z12.out; have := Z13.out; omega) all_nil))))))
  clear S19
  have Z14 : Hid (w13.heap.size ≤ w14.heap.size) := Lib.hid (ho.size)
  clear hh ho
  obtain ⟨K2, hK⟩ : ∃ K : Int, K1 + (x1.length : Int) = K := ⟨_, rfl⟩
  have K2a : 0 ≤ K2 := by omega
  have K2b : K2 ≤ 6000000 := by omega
  rw [hK]
  have HK_2 := Lib.hid hK
  clear hK
  have hk0 : ¬ K2 < 0 := by omega
  have hkd : decide (K2 < 0) = false := by simp; omega
  go_wp2_with fail
  refine (eqI_any _ _ XS _ (Ints.of_own (S20.out.ls _ (.head _)).1 HXL.out) (Ints.of_own (S20.out.ls _ (.tail _ (.tail _ (.tail _ (.head _))))).1 HXL.out)).mono ?_
  rintro e w15 ⟨rfl, hb⟩
  have S21 := Lib.hid (S20.out.on hb)
  clear S20
  have Z15 : Hid (w14.heap.size ≤ w15.heap.size) := Lib.hid (hb.size)
  clear hb
  have hxm := HXM.out
  go_wp2_with fail
  refine (mkI_any w6.heap.size w7.heap.size _ XS 1 _ (S21.out.ls _ (.head _)) (by omega) (by omega) (by omega)).mono ?_
  rintro e w16 ⟨rfl, hh, ho⟩
  have S22 := Lib.hid (Sx.markAt (L1 := []) (L2 := [.l w5.heap.size w6.heap.size (.slice Ax1 x1.length Cx1) (markTo x1 K1 x1.length), .l w4.heap.size w5.heap.size (.slice Ax0 x0.length Cx0) (markTo x0 1 x0.length), .l w3.heap.size w4.heap.size (.slice Azr XS.length Czr) XS, .l w2.heap.size w3.heap.size (.slice Azc1 x1.length Czc1) x1, .l w.heap.size w2.heap.size (.slice Azc0 x0.length Czc0) x0]) (c := .l w6.heap.size w7.heap.size (.slice Agr XS.length Cgr) XS) (c' := .l w6.heap.size w7.heap.size (.slice Agr XS.length Cgr) (markTo XS 1 XS.length)) S21.out ho hh (by have := Z1.out; have := Z2.out; have := Z3.out; have := Z4.out; have := Z5.out; have := Z6.out; have := Z7.out; have := Z8.out; have := Z9.out; have := Z10.out; have := Z11.out; have := Z12.out; have := Z13.out; have := Z14.out; have := Z15.out; omega) (by have := Z1.out; have := Z2.out; have := Z3.out; have := Z4.out; have := Z5.out; have := Z6.out; have := Z7.out; have := Z8.out; have := Z9.out; have := Z10.out; have := Z11.out; have := Z12.out; have := Z13.out; have := Z14.out; have := Z15.out; omega) all_nil (all_cons (by show w6.heap.size ≤ w6.heap.size ∨ w7.heap.size ≤ w5.heap.size; have := Z1.out; have := Z2.out; have := Z3.out; have := Z4.out; have := Z5.out; have := Z6.out; have := Z7.out; have := Z8.out; have := Z9.out; have := Z10.out; have := Z11.out; have := Z12.out; have := Z13.out; have := Z14.out; have := Z15.out; omega) (all_cons (by show w5.heap.size ≤ w6.heap.size ∨ w7.heap.size ≤ w4.heap.size; have := Z1.out; have := Z2.out; have := Z3.out; have := Z4.out; have := Z5.out; have := Z6.out; have := Z7.out; have := Z8.out; have := Z9.out; have := Z10.out; have := Z11.out; have := Z12.out; have := Z13.out; have := Z14.out; have := Z15.out; omega) (all_cons (by show w4.heap.size ≤ w6.heap.size ∨ w7.heap.size ≤ w3.heap.size; have := Z1.out; have := Z2.out; have := Z3.out; have := Z4.out; have := Z5.out; have := Z6.out; have := Z7.out; have := Z8.out; have := Z9.out; have := Z10.out; have := Z11.out; have := Z12.out; have := Z13.out; have := Z14.out; have := Z15.out; omega) (all_cons (by show w3.heap.size ≤ w6.heap.size ∨ w7.heap.size ≤ w2.heap.size; have := Z1.out; have := Z2.out; have := Z3.out; have := Z4.out; have := Z5.out; have := Z6.out; have := Z7.out; have := Z8.out; have := Z9.out; have := Z10.out; have := Z11.out; have := Z12.out; have := Z13.out; have := Z14.out; have := Z15.out; omega) (all_cons (by show w2.heap.size ≤ w6.heap.size ∨ w7.heap.size ≤ w.heap.size; have := Z1.out; have := Z2.out; have := Z3.out; have := Z4.out; have := Z5.out; have := Z6.out; have := Z7.out; have := Z8.out; have := Z9.out; have := Z10.out; have := Z11.out; have := Z12.out; have := Z13.out; have := Z14.out; have := Z15.out; omega) all_nil))))))
  clear S21
  have Z16 : Hid (w15.heap.size ≤ w16.heap.size) := Lib.hid (ho.size)
  clear hh ho
  obtain ⟨K3, hK⟩ : ∃ K : Int, 1 + (XS.length : Int) = K := ⟨_, rfl⟩
  have K3a : 0 ≤ K3 := by omega
  have K3b : K3 ≤ 9000000 := by omega
  rw [hK]
  have HK_3 := Lib.hid hK
  clear hK
  have hm0 : ¬ K3 < 0 := by omega
  have hmn : (K3 != K3) = false := by simp
  go_wp2_with fail
  refine (hdI_any _ XS 1 _ (Ints.of_own (S22.out.ls _ (.head _)).1 (by rw [markTo_len]; exact HXL.out)) (by omega) (by omega) (by omega)).mono ?_
  rintro e w17 ⟨rfl, hb⟩
  rw [HK_3.out]
  have S23 := Lib.hid (S22.out.on hb)
  clear S22
  have Z17 : Hid (w16.heap.size ≤ w17.heap.size) := Lib.hid (hb.size)
  clear hb
  go_wp2_with fail
  refine (toI_any a0 c0 x0 _ (HA0.out.on S23.out.be) s0).mono ?_
  rintro e w18 ⟨v9, rfl, oo, hb⟩
  have S24 := Lib.hid (S23.out.on hb)
  clear S23
  have hz := hb.size
  obtain ⟨Ayc0, Cyc0, ef⟩ := Own.form oo
  subst ef
  have S25 := Lib.hid (S24.out.add (Hl.mk1 oo))
  clear S24
  have Z18 : Hid (w17.heap.size ≤ w18.heap.size) := Lib.hid (hz)
  clear hb oo hz
  go_wp2_with fail
  refine (toI_any a1 c1 x1 _ (HA1.out.on S25.out.be) s1).mono ?_
  rintro e w19 ⟨v9, rfl, oo, hb⟩
  have S26 := Lib.hid (S25.out.on hb)
  clear S25
  have hz := hb.size
  obtain ⟨Ayc1, Cyc1, ef⟩ := Own.form oo
  subst ef
  have S27 := Lib.hid (S26.out.add (Hl.mk1 oo))
  clear S26
  have Z19 : Hid (w18.heap.size ≤ w19.heap.size) := Lib.hid (hz)
  clear hb oo hz
  go_wp2_with fail
  refine (ithn_any _ _ x0 x1 _ (Ints.of_own (S27.out.ls _ (.tail _ (.head _))).1 (small20 s0)) (Ints.of_own (S27.out.ls _ (.head _)).1 (small20 s1)) (S27.out.ls _ (.tail _ (.head _))).1.capped (S27.out.ls _ (.head _)).1.capped).mono ?_
  rintro e w20 ⟨v9, rfl, oo, hb⟩
  try rw [HXS.out] at oo
  have S28 := Lib.hid (S27.out.on hb)
  clear S27
  have hz := hb.size
  obtain ⟨Ayr, Cyr, ef⟩ := Own.form oo
  subst ef
  have S29 := Lib.hid (S28.out.add (Hl.mk1 oo))
  clear S28
  clear oo
  have Z20 : Hid (w19.heap.size ≤ w20.heap.size) := Lib.hid (hz)
  clear hb hz
  go_wp2_with fail
  refine (eqI_any _ _ XS _ (Ints.of_own (S29.out.ls _ (.head _)).1 HXL.out) (Ints.of_own (S29.out.ls _ (.tail _ (.tail _ (.tail _ (.tail _ (.tail _ (.tail _ (.head _)))))))).1 HXL.out)).mono ?_
  rintro e w21 ⟨rfl, hb⟩
  have S30 := Lib.hid (S29.out.on hb)
  clear S29
  have Z21 : Hid (w20.heap.size ≤ w21.heap.size) := Lib.hid (hb.size)
  clear hb
  go_wp2_with fail
  refine (hdI_any _ XS 1 _ (Ints.of_own (S30.out.ls _ (.tail _ (.tail _ (.tail _ (.head _))))).1 (by rw [markTo_len]; exact HXL.out)) (by omega) (by omega) (by omega)).mono ?_
  rintro e w22 ⟨rfl, hb⟩
  rw [HK_3.out]
  have S31 := Lib.hid (S30.out.on hb)
  clear S30
  have Z22 : Hid (w21.heap.size ≤ w22.heap.size) := Lib.hid (hb.size)
  clear hb
  go_wp2
  go_ret
  exact ⟨rfl, S31.out.be⟩
end Go.Proofs.Ytipndddmjgjgpaa
