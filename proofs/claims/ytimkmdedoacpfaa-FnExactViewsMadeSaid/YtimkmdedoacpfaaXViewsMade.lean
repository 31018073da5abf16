/- The exact law of ViewsMade, walked: spec's answer, impl's answer, and that both are the same; no argument is written to; the answer owns its memory. -/
import Derived.Test.YtimkmdedoacpfaaVmI
import Derived.Test.YtimkmdedoacpfaaGrC
import Derived.Test.YtimkmdedoacpfaaBSol
import Derived.Deep.Cut
namespace Go.Proofs.Ytimkmdedoacpfaa
open Go.RowKit

set_option maxRecDepth 100000 in
set_option maxHeartbeats 12800000 in
theorem xViewsMade_walk (n0 : Int) (w : World)  :
    Calls Try.prog 8 #[.int .i64 n0] w fun e w' => e = .returned (.bool true) ∧ Below w.heap.size w w' := by
  obtain ⟨XS, hXS⟩ : ∃ r, vmL n0 = r := ⟨_, rfl⟩
  have HXL : Hid (XS.length ≤ maxLen) := Lib.hid (by rw [← hXS]; exact small3 (Nat.le_trans vmL_few (by omega)))
  have HXM : Hid (XS.length ≤ 1000) := Lib.hid (by rw [← hXS]; exact Nat.le_trans vmL_few (by omega))
  have HXS := Lib.hid hXS
  clear hXS
  have SS0 : Hid (Sx w [] [] w) := Lib.hid (Sx.start w)
  have S1 := Lib.hid SS0.out
  have Z1 : Hid (w.heap.size ≤ w.heap.size) := Lib.hid (Nat.le_refl _)
  clear SS0
  go_enter Try.func8, Try.ntmps8
  go_wp2_with fail
  refine (svm_any n0 _).mono ?_
  rintro e w2 ⟨v9, rfl, oo, hb⟩
  try rw [HXS.out] at oo
  have S2 := Lib.hid (S1.out.on hb)
  clear S1
  have hz := hb.size
  obtain ⟨Azr, Czr, ef⟩ := Own.form oo
  subst ef
  have S3 := Lib.hid (S2.out.add (Hl.mk1 oo))
  clear S2
  clear oo
  have Z2 : Hid (w.heap.size ≤ w2.heap.size) := Lib.hid (hz)
  clear hb hz
  go_wp2_with fail
  refine (ivm_any n0 _).mono ?_
  rintro e w3 ⟨v9, rfl, oo, hb⟩
  try rw [HXS.out] at oo
  have S4 := Lib.hid (S3.out.on hb)
  clear S3
  have hz := hb.size
  obtain ⟨Agr, Cgr, ef⟩ := Own.form oo
  subst ef
  have S5 := Lib.hid (S4.out.add (Hl.mk1 oo))
  clear S4
  clear oo
  have Z3 : Hid (w2.heap.size ≤ w3.heap.size) := Lib.hid (hz)
  clear hb hz
  go_wp2_with fail
  refine (eqI_any _ _ XS _ (Ints.of_own (S5.out.ls _ (.head _)).1 HXL.out) (Ints.of_own (S5.out.ls _ (.tail _ (.head _))).1 HXL.out)).mono ?_
  rintro e w4 ⟨rfl, hb⟩
  have S6 := Lib.hid (S5.out.on hb)
  clear S5
  have Z4 : Hid (w3.heap.size ≤ w4.heap.size) := Lib.hid (hb.size)
  clear hb
  have hxm := HXM.out
  go_wp2_with fail
  refine (mkI_any w2.heap.size w3.heap.size _ XS 1 _ (S6.out.ls _ (.head _)) (by omega) (by omega) (by omega)).mono ?_
  rintro e w5 ⟨rfl, hh, ho⟩
  have S7 := Lib.hid (Sx.markAt (L1 := []) (L2 := [.l w.heap.size w2.heap.size (.slice Azr XS.length Czr) XS]) (c := .l w2.heap.size w3.heap.size (.slice Agr XS.length Cgr) XS) (c' := .l w2.heap.size w3.heap.size (.slice Agr XS.length Cgr) (markTo XS 1 XS.length)) S6.out ho hh (by have := Z1.out; have := Z2.out; have := Z3.out; have := Z4.out; omega) (by have := Z1.out; have := Z2.out; have := Z3.out; have := Z4.out; omega) all_nil (all_cons (by show w2.heap.size ≤ w2.heap.size ∨ w3.heap.size ≤ w.heap.size; have := Z1.out; have := Z2.out; have := Z3.out; have := Z4.out; omega) all_nil))
  clear S6
  have Z5 : Hid (w4.heap.size ≤ w5.heap.size) := Lib.hid (ho.size)
  clear hh ho
  obtain ⟨K1, hK⟩ : ∃ K : Int, 1 + (XS.length : Int) = K := ⟨_, rfl⟩
  have K1a : 0 ≤ K1 := by omega
  have K1b : K1 ≤ 3000000 := by omega
  rw [hK]
  have HK_1 := Lib.hid hK
  clear hK
  have hm0 : ¬ K1 < 0 := by omega
  have hmn : (K1 != K1) = false := by simp
  go_wp2_with fail
  refine (hdI_any _ XS 1 _ (Ints.of_own (S7.out.ls _ (.head _)).1 (by rw [markTo_len]; exact HXL.out)) (by omega) (by omega) (by omega)).mono ?_
  rintro e w6 ⟨rfl, hb⟩
  rw [HK_1.out]
  have S8 := Lib.hid (S7.out.on hb)
  clear S7
  have Z6 : Hid (w5.heap.size ≤ w6.heap.size) := Lib.hid (hb.size)
  clear hb
  go_wp2_with fail
  refine (ivm_any n0 _).mono ?_
  rintro e w7 ⟨v9, rfl, oo, hb⟩
  try rw [HXS.out] at oo
  have S9 := Lib.hid (S8.out.on hb)
  clear S8
  have hz := hb.size
  obtain ⟨Ayr, Cyr, ef⟩ := Own.form oo
  subst ef
  have S10 := Lib.hid (S9.out.add (Hl.mk1 oo))
  clear S9
  clear oo
  have Z7 : Hid (w6.heap.size ≤ w7.heap.size) := Lib.hid (hz)
  clear hb hz
  go_wp2_with fail
  refine (eqI_any _ _ XS _ (Ints.of_own (S10.out.ls _ (.head _)).1 HXL.out) (Ints.of_own (S10.out.ls _ (.tail _ (.tail _ (.head _)))).1 HXL.out)).mono ?_
  rintro e w8 ⟨rfl, hb⟩
  have S11 := Lib.hid (S10.out.on hb)
  clear S10
  have Z8 : Hid (w7.heap.size ≤ w8.heap.size) := Lib.hid (hb.size)
  clear hb
  go_wp2_with fail
  refine (hdI_any _ XS 1 _ (Ints.of_own (S11.out.ls _ (.tail _ (.head _))).1 (by rw [markTo_len]; exact HXL.out)) (by omega) (by omega) (by omega)).mono ?_
  rintro e w9 ⟨rfl, hb⟩
  rw [HK_1.out]
  have S12 := Lib.hid (S11.out.on hb)
  clear S11
  have Z9 : Hid (w8.heap.size ≤ w9.heap.size) := Lib.hid (hb.size)
  clear hb
  go_wp2
  go_ret
  exact ⟨rfl, S12.out.be⟩
end Go.Proofs.Ytimkmdedoacpfaa
