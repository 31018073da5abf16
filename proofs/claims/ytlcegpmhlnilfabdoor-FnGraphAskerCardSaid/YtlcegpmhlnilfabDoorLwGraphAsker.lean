/- The law FnGraphAsker, walked. -/
import Derived.Test.YtlcegpmhlnilfabDoorGaI
import Derived.Test.YtlcegpmhlnilfabDoorDrF9
import Derived.Test.YtlcegpmhlnilfabDoorBLaw
namespace Go.Proofs.YtlcegpmhlnilfabDoor
open Go.RowKit

set_option maxRecDepth 100000 in
set_option maxHeartbeats 6400000 in
theorem lGraphAsker_walk (s : Value) (w : World) (h : CodeIn w s) (G : Gr w) : Calls Tryd.prog 8 #[s] w fun e w' => e = .returned (.bool true) ∧ Below w.heap.size w w' := by
  obtain ⟨a0, len0, cap0, rfl⟩ := h.slice
  have H := Lib.hid h; clear h
  have G0 := Lib.hid G; clear G
  by_cases hl : 1048576 < len0
  · go_enter Tryd.func8, Tryd.ntmps8
    go_wp2
    go_ret
    exact ⟨rfl, Below.refl _ _⟩
  go_enter Tryd.func8, Tryd.ntmps8
  go_wp2_with fail
  refine (drawGraphAsker_any _ _ H.out).mono ?_
  rintro e w1 ⟨av, l, rfl, hlen, hI, hb⟩
  have HI := Lib.hid hI
  have T1 := Lib.hid hb
  have HK := Lib.hid hb
  obtain ⟨r, hr⟩ : ∃ r, fouB l = r := ⟨_, rfl⟩
  have HR := Lib.hid hr
  have hrr : (r != r) = false := by simp
  clear hI hb hr
  go_wp2_with fail
  refine (igar_any _ l _ HI.out).mono ?_
  rintro e w2 ⟨rfl, hb⟩
  rw [HR.out]
  have T2 := Lib.hid (Below.on T1.out hb)
  have I2 := Lib.hid (HI.out.below hb)
  clear hb T1 HI
  go_wp2_with fail
  refine (sgar_any _ l _ I2.out).mono ?_
  rintro e w3 ⟨rfl, hb⟩
  rw [HR.out]
  have T3 := Lib.hid (Below.on T2.out hb)
  clear hb T2 I2
  have O3 := Lib.hid (Ints.of_own (own_lit4 w3 0 0 0 0) (by simp; unfold maxLen; omega))
  have L3 := Lib.hid (below_grow w3 (.cells #[.int .i64 0, .int .i64 0, .int .i64 0, .int .i64 0] 3))
  go_wp2_with fail
  refine (igar_any _ [0, 0, 0, 0] _ O3.out).mono ?_
  rintro e w4 ⟨rfl, hb⟩
  rw [show fouB [0, 0, 0, 0] = true by decide]
  have T4 := Lib.hid (Below.on (Below.on T3.out L3.out) hb)
  clear hb T3 O3 L3
  have O4 := Lib.hid (Ints.of_own (own_lit4 w4 1 1 1 1) (by simp; unfold maxLen; omega))
  have L4 := Lib.hid (below_grow w4 (.cells #[.int .i64 1, .int .i64 1, .int .i64 1, .int .i64 1] 3))
  go_wp2_with fail
  refine (igar_any _ [1, 1, 1, 1] _ O4.out).mono ?_
  rintro e w5 ⟨rfl, hb⟩
  rw [show fouB [1, 1, 1, 1] = true by decide]
  have T5 := Lib.hid (Below.on (Below.on T4.out L4.out) hb)
  clear hb T4 O4 L4
  go_wp2_with fail
  refine (igar_any (.slice none 0 0) [] _ (.inl ⟨rfl, rfl⟩)).mono ?_
  rintro e w6 ⟨rfl, hb⟩
  rw [show fouB [] = false by decide]
  have T6 := Lib.hid (Below.on T5.out hb)
  clear hb T5
  go_wp2_with fail
  refine (alive_any _ (G0.out.on T6.out)).mono ?_
  rintro e wz ⟨rfl, rfl⟩
  go_wp2
  go_ret
  exact ⟨rfl, T6.out⟩
end Go.Proofs.YtlcegpmhlnilfabDoor
