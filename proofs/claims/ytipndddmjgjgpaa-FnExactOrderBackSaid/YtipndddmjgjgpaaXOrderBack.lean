/- The exact law of OrderBack, walked: spec's answer, impl's answer, and that both are the same; no argument is written to; the answer owns its memory. -/
import Derived.Test.YtipndddmjgjgpaaTrnX
import Derived.Test.YtipndddmjgjgpaaGrC
import Derived.Test.YtipndddmjgjgpaaRegionL
import Derived.Deep.Cut
namespace Go.Proofs.Ytipndddmjgjgpaa
open Go.RowKit

set_option maxRecDepth 100000 in
set_option maxHeartbeats 12800000 in
theorem xOrderBack_walk (a0 : Option Addr) (c0 : Nat) (x0 : List Int) (w : World) (h0 : ArgI w a0 x0) (m0 : x0.length ≤ maxLen) :
    Calls Try.prog 7 #[.slice a0 x0.length c0] w fun e w' => e = .returned (.bool true) ∧ Below w.heap.size w w' := by
  have HA0 := Lib.hid h0
  clear h0
  obtain ⟨XS, hXS⟩ : ∃ r, bkL x0 = r := ⟨_, rfl⟩
  have HXL : Hid (XS.length ≤ maxLen) := Lib.hid (by rw [← hXS]; exact few5 bkL_few)
  have HXM : Hid (XS.length ≤ 1000) := Lib.hid (by rw [← hXS]; exact Nat.le_trans bkL_few (by omega))
  have HXS := Lib.hid hXS
  clear hXS
  unfold maxLen at m0
  have SS0 : Hid (Sx w [] [] w) := Lib.hid (Sx.start w)
  by_cases s0 : x0.length ≤ 1048576
  case neg =>
    go_enter Try.func7, Try.ntmps7
    go_wp2
    go_ret
    exact ⟨rfl, SS0.out.be⟩
  have S1 := Lib.hid SS0.out
  have Z1 : Hid (w.heap.size ≤ w.heap.size) := Lib.hid (Nat.le_refl _)
  clear SS0
  go_enter Try.func7, Try.ntmps7
  go_wp2_with fail
  refine (toI_any a0 c0 x0 _ (HA0.out.on S1.out.be) s0).mono ?_
  rintro e w2 ⟨v9, rfl, oo, hb⟩
  have S2 := Lib.hid (S1.out.on hb)
  clear S1
  have hz := hb.size
  obtain ⟨Azc0, Czc0, ef⟩ := Own.form oo
  subst ef
  have S3 := Lib.hid (S2.out.add (Hl.mk1 oo))
  clear S2
  have Z2 : Hid (w.heap.size ≤ w2.heap.size) := Lib.hid (hz)
  clear hb oo hz
  go_wp2_with fail
  refine (sbck_any _ x0 _ (Ints.of_own (S3.out.ls _ (.head _)).1 (small20 s0))).mono ?_
  rintro e w3 ⟨v9, rfl, oo, hb⟩
  try rw [HXS.out] at oo
  have S4 := Lib.hid (S3.out.on hb)
  clear S3
  have hz := hb.size
  obtain ⟨Azr, Czr, ef⟩ := Own.form oo
  subst ef
  have S5 := Lib.hid (S4.out.add (Hl.mk1 oo))
  clear S4
  clear oo
  have Z3 : Hid (w2.heap.size ≤ w3.heap.size) := Lib.hid (hz)
  clear hb hz
  go_wp2_with fail
  refine (toI_any a0 c0 x0 _ (HA0.out.on S5.out.be) s0).mono ?_
  rintro e w4 ⟨v9, rfl, oo, hb⟩
  have S6 := Lib.hid (S5.out.on hb)
  clear S5
  have hz := hb.size
  obtain ⟨Ax0, Cx0, ef⟩ := Own.form oo
  subst ef
  have S7 := Lib.hid (S6.out.add (Hl.mk1 oo))
  clear S6
  have Z4 : Hid (w3.heap.size ≤ w4.heap.size) := Lib.hid (hz)
  clear hb oo hz
  go_wp2_with fail
  refine (ibck_any _ x0 _ (Ints.of_own (S7.out.ls _ (.head _)).1 (small20 s0)) (S7.out.ls _ (.head _)).1.capped).mono ?_
  rintro e w5 ⟨v9, rfl, oo, hb⟩
  try rw [HXS.out] at oo
  have S8 := Lib.hid (S7.out.on hb)
  clear S7
  have hz := hb.size
  obtain ⟨Agr, Cgr, ef⟩ := Own.form oo
  subst ef
  have S9 := Lib.hid (S8.out.add (Hl.mk1 oo))
  clear S8
  clear oo
  have Z5 : Hid (w4.heap.size ≤ w5.heap.size) := Lib.hid (hz)
  clear hb hz
  go_wp2_with fail
  refine (eqI_any _ _ XS _ (Ints.of_own (S9.out.ls _ (.head _)).1 HXL.out) (Ints.of_own (S9.out.ls _ (.tail _ (.tail _ (.head _)))).1 HXL.out)).mono ?_
  rintro e w6 ⟨rfl, hb⟩
  have S10 := Lib.hid (S9.out.on hb)
  clear S9
  have Z6 : Hid (w5.heap.size ≤ w6.heap.size) := Lib.hid (hb.size)
  clear hb
  go_wp2_with fail
  refine (toI_any a0 c0 x0 _ (HA0.out.on S10.out.be) s0).mono ?_
  rintro e w7 ⟨v9, rfl, oo, hb⟩
  have I9 := Lib.hid (Ints.of_own oo (small20 s0))
  have S11 := Lib.hid (S10.out.on hb)
  clear S10
  have Z7 : Hid (w6.heap.size ≤ w7.heap.size) := Lib.hid (hb.size)
  clear hb oo
  go_wp2_with fail
  refine (eqI_any _ v9 x0 _ (Ints.of_own (S11.out.ls _ (.tail _ (.head _))).1 (small20 s0)) I9.out).mono ?_
  rintro e w8 ⟨rfl, hb⟩
  have S12 := Lib.hid (S11.out.on hb)
  clear S11
  have Z8 : Hid (w7.heap.size ≤ w8.heap.size) := Lib.hid (hb.size)
  clear hb I9
  go_wp2_with fail
  refine (mkI_any w3.heap.size w4.heap.size _ x0 1 _ (S12.out.ls _ (.tail _ (.head _))) (by omega) (by omega) (by omega)).mono ?_
  rintro e w9 ⟨rfl, hh, ho⟩
  have S13 := Lib.hid (Sx.markAt (L1 := [.l w4.heap.size w5.heap.size (.slice Agr XS.length Cgr) XS]) (L2 := [.l w2.heap.size w3.heap.size (.slice Azr XS.length Czr) XS, .l w.heap.size w2.heap.size (.slice Azc0 x0.length Czc0) x0]) (c := .l w3.heap.size w4.heap.size (.slice Ax0 x0.length Cx0) x0) (c' := .l w3.heap.size w4.heap.size (.slice Ax0 x0.length Cx0) (markTo x0 1 x0.length)) S12.out ho hh (by have := Z1.out; have := Z2.out; have := Z3.out; have := Z4.out; have := Z5.out; have := Z6.out; have := Z7.out; have := Z8.out; omega) (by have := Z1.out; have := Z2.out; have := Z3.out; have := Z4.out; have := Z5.out; have := Z6.out; have := Z7.out; have := Z8.out; omega) all_nil (all_cons (by show w5.heap.size ≤ w3.heap.size ∨ w4.heap.size ≤ w4.heap.size; have := Z1.out; have := Z2.out; have := Z3.out; have := Z4.out; have := Z5.out; have := Z6.out; have := Z7.out; have := Z8.out; omega) (all_cons (by show w3.heap.size ≤ w3.heap.size ∨ w4.heap.size ≤ w2.heap.size; have := Z1.out; have := Z2.out; have := Z3.out; have := Z4.out; have := Z5.out; have := Z6.out; have := Z7.out; have := Z8.out; omega) (all_cons (by show w2.heap.size ≤ w3.heap.size ∨ w4.heap.size ≤ w.heap.size; have := Z1.out; have := Z2.out; have := Z3.out; have := Z4.out; have := Z5.out; have := Z6.out; have := Z7.out; have := Z8.out; omega) all_nil))))
  clear S12
  have Z9 : Hid (w8.heap.size ≤ w9.heap.size) := Lib.hid (ho.size)
  clear hh ho
  obtain ⟨K1, hK⟩ : ∃ K : Int, 1 + (x0.length : Int) = K := ⟨_, rfl⟩
  have K1a : 0 ≤ K1 := by omega
  have K1b : K1 ≤ 3000000 := by omega
  rw [hK]
  have HK_1 := Lib.hid hK
  clear hK
  have hk0 : ¬ K1 < 0 := by omega
  have hkd : decide (K1 < 0) = false := by simp; omega
  go_wp2_with fail
  refine (eqI_any _ _ XS _ (Ints.of_own (S13.out.ls _ (.head _)).1 HXL.out) (Ints.of_own (S13.out.ls _ (.tail _ (.tail _ (.head _)))).1 HXL.out)).mono ?_
  rintro e w10 ⟨rfl, hb⟩
  have S14 := Lib.hid (S13.out.on hb)
  clear S13
  have Z10 : Hid (w9.heap.size ≤ w10.heap.size) := Lib.hid (hb.size)
  clear hb
  have hxm := HXM.out
  go_wp2_with fail
  refine (mkI_any w4.heap.size w5.heap.size _ XS 1 _ (S14.out.ls _ (.head _)) (by omega) (by omega) (by omega)).mono ?_
  rintro e w11 ⟨rfl, hh, ho⟩
  have S15 := Lib.hid (Sx.markAt (L1 := []) (L2 := [.l w3.heap.size w4.heap.size (.slice Ax0 x0.length Cx0) (markTo x0 1 x0.length), .l w2.heap.size w3.heap.size (.slice Azr XS.length Czr) XS, .l w.heap.size w2.heap.size (.slice Azc0 x0.length Czc0) x0]) (c := .l w4.heap.size w5.heap.size (.slice Agr XS.length Cgr) XS) (c' := .l w4.heap.size w5.heap.size (.slice Agr XS.length Cgr) (markTo XS 1 XS.length)) S14.out ho hh (by have := Z1.out; have := Z2.out; have := Z3.out; have := Z4.out; have := Z5.out; have := Z6.out; have := Z7.out; have := Z8.out; have := Z9.out; have := Z10.out; omega) (by have := Z1.out; have := Z2.out; have := Z3.out; have := Z4.out; have := Z5.out; have := Z6.out; have := Z7.out; have := Z8.out; have := Z9.out; have := Z10.out; omega) all_nil (all_cons (by show w4.heap.size ≤ w4.heap.size ∨ w5.heap.size ≤ w3.heap.size; have := Z1.out; have := Z2.out; have := Z3.out; have := Z4.out; have := Z5.out; have := Z6.out; have := Z7.out; have := Z8.out; have := Z9.out; have := Z10.out; omega) (all_cons (by show w3.heap.size ≤ w4.heap.size ∨ w5.heap.size ≤ w2.heap.size; have := Z1.out; have := Z2.out; have := Z3.out; have := Z4.out; have := Z5.out; have := Z6.out; have := Z7.out; have := Z8.out; have := Z9.out; have := Z10.out; omega) (all_cons (by show w2.heap.size ≤ w4.heap.size ∨ w5.heap.size ≤ w.heap.size; have := Z1.out; have := Z2.out; have := Z3.out; have := Z4.out; have := Z5.out; have := Z6.out; have := Z7.out; have := Z8.out; have := Z9.out; have := Z10.out; omega) all_nil))))
  clear S14
  have Z11 : Hid (w10.heap.size ≤ w11.heap.size) := Lib.hid (ho.size)
  clear hh ho
  obtain ⟨K2, hK⟩ : ∃ K : Int, 1 + (XS.length : Int) = K := ⟨_, rfl⟩
  have K2a : 0 ≤ K2 := by omega
  have K2b : K2 ≤ 6000000 := by omega
  rw [hK]
  have HK_2 := Lib.hid hK
  clear hK
  have hm0 : ¬ K2 < 0 := by omega
  have hmn : (K2 != K2) = false := by simp
  go_wp2_with fail
  refine (hdI_any _ XS 1 _ (Ints.of_own (S15.out.ls _ (.head _)).1 (by rw [markTo_len]; exact HXL.out)) (by omega) (by omega) (by omega)).mono ?_
  rintro e w12 ⟨rfl, hb⟩
  rw [HK_2.out]
  have S16 := Lib.hid (S15.out.on hb)
  clear S15
  have Z12 : Hid (w11.heap.size ≤ w12.heap.size) := Lib.hid (hb.size)
  clear hb
  go_wp2_with fail
  refine (toI_any a0 c0 x0 _ (HA0.out.on S16.out.be) s0).mono ?_
  rintro e w13 ⟨v9, rfl, oo, hb⟩
  have S17 := Lib.hid (S16.out.on hb)
  clear S16
  have hz := hb.size
  obtain ⟨Ayc0, Cyc0, ef⟩ := Own.form oo
  subst ef
  have S18 := Lib.hid (S17.out.add (Hl.mk1 oo))
  clear S17
  have Z13 : Hid (w12.heap.size ≤ w13.heap.size) := Lib.hid (hz)
  clear hb oo hz
  go_wp2_with fail
  refine (ibck_any _ x0 _ (Ints.of_own (S18.out.ls _ (.head _)).1 (small20 s0)) (S18.out.ls _ (.head _)).1.capped).mono ?_
  rintro e w14 ⟨v9, rfl, oo, hb⟩
  try rw [HXS.out] at oo
  have S19 := Lib.hid (S18.out.on hb)
  clear S18
  have hz := hb.size
  obtain ⟨Ayr, Cyr, ef⟩ := Own.form oo
  subst ef
  have S20 := Lib.hid (S19.out.add (Hl.mk1 oo))
  clear S19
  clear oo
  have Z14 : Hid (w13.heap.size ≤ w14.heap.size) := Lib.hid (hz)
  clear hb hz
  go_wp2_with fail
  refine (eqI_any _ _ XS _ (Ints.of_own (S20.out.ls _ (.head _)).1 HXL.out) (Ints.of_own (S20.out.ls _ (.tail _ (.tail _ (.tail _ (.tail _ (.head _)))))).1 HXL.out)).mono ?_
  rintro e w15 ⟨rfl, hb⟩
  have S21 := Lib.hid (S20.out.on hb)
  clear S20
  have Z15 : Hid (w14.heap.size ≤ w15.heap.size) := Lib.hid (hb.size)
  clear hb
  go_wp2_with fail
  refine (hdI_any _ XS 1 _ (Ints.of_own (S21.out.ls _ (.tail _ (.tail _ (.head _)))).1 (by rw [markTo_len]; exact HXL.out)) (by omega) (by omega) (by omega)).mono ?_
  rintro e w16 ⟨rfl, hb⟩
  rw [HK_2.out]
  have S22 := Lib.hid (S21.out.on hb)
  clear S21
  have Z16 : Hid (w15.heap.size ≤ w16.heap.size) := Lib.hid (hb.size)
  clear hb
  go_wp2
  go_ret
  exact ⟨rfl, S22.out.be⟩
end Go.Proofs.Ytipndddmjgjgpaa
