/- The law FnAskerOk, walked. -/
import Derived.Test.YtlcegpmhlnilfabDoorAsI
import Derived.Test.YtlcegpmhlnilfabDoorAsS
import Derived.Test.YtlcegpmhlnilfabDoorDrA
import Derived.Test.YtlcegpmhlnilfabDoorBLaw
namespace Go.Proofs.YtlcegpmhlnilfabDoor
open Go.RowKit

set_option maxRecDepth 20000 in
set_option maxHeartbeats 3200000 in
theorem lAskerOk_walk (s : Value) (w : World) (h : CodeIn w s) (G : Gr w) : Calls Tryd.prog 4 #[s] w fun e w' => e = .returned (.bool true) ∧ Below w.heap.size w w' := by
  obtain ⟨a0, len0, cap0, rfl⟩ := h.slice
  have H := Lib.hid h; clear h
  have G0 := Lib.hid G; clear G
  by_cases hl : 1048576 < len0
  · go_enter Tryd.func4, Tryd.ntmps4
    go_wp2
    go_ret
    exact ⟨rfl, Below.refl _ _⟩
  go_enter Tryd.func4, Tryd.ntmps4
  go_wp2_with fail
  refine (drawAskerOk_any _ _ H.out).mono ?_
  rintro e w1 ⟨g, av, l, rfl, hlen, hI, hb⟩
  obtain ⟨la, lc, rfl, _⟩ := hI.opened
  have FB := Lib.hid (show ∀ w', Below w1.heap.size w1 w' → (Gr w' ∧ Ints w' (.slice la l.length lc) l) ∧ Below w.heap.size w w' from fun w' hb' => ⟨⟨G0.out.on (Below.on hb hb'), hI.below hb'⟩, Below.on hb hb'⟩)
  have T1 := Lib.hid (Below.refl w1.heap.size w1)
  clear hI hb
  obtain ⟨r, hr⟩ : ∃ r, askB g l = r := ⟨_, rfl⟩
  have HR := Lib.hid hr
  have hrr : (r != r) = false := by simp
  clear hr
  go_wp2_with fail
  refine (iask_any g _ l _ (FB.out _ T1.out).1.1 (FB.out _ T1.out).1.2).mono ?_
  rintro e w2 ⟨rfl, hb⟩
  rw [HR.out]
  have T2 := Lib.hid (Below.on T1.out hb)
  clear hb
  go_wp2_with fail
  refine (sask_any g _ l _ (FB.out _ T2.out).1.2).mono ?_
  rintro e w3 ⟨rfl, hb⟩
  rw [HR.out]
  have T3 := Lib.hid (Below.on T2.out hb)
  clear hb
  clear hrr
  by_cases hg : 0 ≤ g ∧ g < 4
  · obtain ⟨g0, g4⟩ := hg
    rcases g_cases g0 g4 with rfl | rfl | rfl | rfl <;> clear g0 g4
    · have hmk := run_make_row' (P := Tryd.prog) 23 3 (.int .i64 0) 8 Tryd.underlying23 infoInt rfl .i64 .i64 3 (by omega) (by omega)
      simp only [Int.cast_ofNat_Int] at hmk
      have HO := Lib.hid (show ord 0 = 3 from rfl)
      have HZ := Lib.hid (show askB 0 (List.replicate 3 0) = true from zeros_ask (by omega) (by omega))
      go_wp2_with fail
      refine (sord_any _ _).mono ?_
      rintro e w4 ⟨rfl, hb⟩
      rw [HO.out]
      have T4 := Lib.hid (Below.on T3.out hb)
      clear hb
      have OZ := Lib.hid (own_make w4 3 (by omega))
      have BZ := Lib.hid (Below.on T4.out (below_alloc w4 (.cells (madeCells #[.int .i64 0] 3) 3)))
      have IZ := Lib.hid (Ints.of_own OZ.out (by rw [List.length_replicate]; unfold maxLen; omega))
      go_wp2_with fail
      refine (iask_any _ _ (List.replicate 3 0) _ (FB.out _ BZ.out).1.1 IZ.out).mono ?_
      rintro e w5 ⟨rfl, hb⟩
      rw [HZ.out]
      have T5 := Lib.hid (Below.on BZ.out hb)
      clear hb OZ BZ IZ T4
      go_wp2_with fail
      refine (sord_any _ _).mono ?_
      rintro e w6 ⟨rfl, hb⟩
      rw [HO.out]
      have T6 := Lib.hid (Below.on T5.out hb)
      clear hb
      go_wp2_with fail
      refine (alive_any _ (FB.out _ T6.out).1.1).mono ?_
      rintro e wz ⟨rfl, rfl⟩
      go_wp2
      go_ret
      exact ⟨rfl, (FB.out _ T6.out).2⟩
    · have hmk := run_make_row' (P := Tryd.prog) 23 3 (.int .i64 0) 8 Tryd.underlying23 infoInt rfl .i64 .i64 5 (by omega) (by omega)
      simp only [Int.cast_ofNat_Int] at hmk
      have HO := Lib.hid (show ord 1 = 5 from rfl)
      have HZ := Lib.hid (show askB 1 (List.replicate 5 0) = true from zeros_ask (by omega) (by omega))
      go_wp2_with fail
      refine (sord_any _ _).mono ?_
      rintro e w4 ⟨rfl, hb⟩
      rw [HO.out]
      have T4 := Lib.hid (Below.on T3.out hb)
      clear hb
      have OZ := Lib.hid (own_make w4 5 (by omega))
      have BZ := Lib.hid (Below.on T4.out (below_alloc w4 (.cells (madeCells #[.int .i64 0] 5) 3)))
      have IZ := Lib.hid (Ints.of_own OZ.out (by rw [List.length_replicate]; unfold maxLen; omega))
      go_wp2_with fail
      refine (iask_any _ _ (List.replicate 5 0) _ (FB.out _ BZ.out).1.1 IZ.out).mono ?_
      rintro e w5 ⟨rfl, hb⟩
      rw [HZ.out]
      have T5 := Lib.hid (Below.on BZ.out hb)
      clear hb OZ BZ IZ T4
      go_wp2_with fail
      refine (sord_any _ _).mono ?_
      rintro e w6 ⟨rfl, hb⟩
      rw [HO.out]
      have T6 := Lib.hid (Below.on T5.out hb)
      clear hb
      go_wp2_with fail
      refine (alive_any _ (FB.out _ T6.out).1.1).mono ?_
      rintro e wz ⟨rfl, rfl⟩
      go_wp2
      go_ret
      exact ⟨rfl, (FB.out _ T6.out).2⟩
    · have hmk := run_make_row' (P := Tryd.prog) 23 3 (.int .i64 0) 8 Tryd.underlying23 infoInt rfl .i64 .i64 11 (by omega) (by omega)
      simp only [Int.cast_ofNat_Int] at hmk
      have HO := Lib.hid (show ord 2 = 11 from rfl)
      have HZ := Lib.hid (show askB 2 (List.replicate 11 0) = true from zeros_ask (by omega) (by omega))
      go_wp2_with fail
      refine (sord_any _ _).mono ?_
      rintro e w4 ⟨rfl, hb⟩
      rw [HO.out]
      have T4 := Lib.hid (Below.on T3.out hb)
      clear hb
      have OZ := Lib.hid (own_make w4 11 (by omega))
      have BZ := Lib.hid (Below.on T4.out (below_alloc w4 (.cells (madeCells #[.int .i64 0] 11) 3)))
      have IZ := Lib.hid (Ints.of_own OZ.out (by rw [List.length_replicate]; unfold maxLen; omega))
      go_wp2_with fail
      refine (iask_any _ _ (List.replicate 11 0) _ (FB.out _ BZ.out).1.1 IZ.out).mono ?_
      rintro e w5 ⟨rfl, hb⟩
      rw [HZ.out]
      have T5 := Lib.hid (Below.on BZ.out hb)
      clear hb OZ BZ IZ T4
      go_wp2_with fail
      refine (sord_any _ _).mono ?_
      rintro e w6 ⟨rfl, hb⟩
      rw [HO.out]
      have T6 := Lib.hid (Below.on T5.out hb)
      clear hb
      go_wp2_with fail
      refine (alive_any _ (FB.out _ T6.out).1.1).mono ?_
      rintro e wz ⟨rfl, rfl⟩
      go_wp2
      go_ret
      exact ⟨rfl, (FB.out _ T6.out).2⟩
    · have hmk := run_make_row' (P := Tryd.prog) 23 3 (.int .i64 0) 8 Tryd.underlying23 infoInt rfl .i64 .i64 23 (by omega) (by omega)
      simp only [Int.cast_ofNat_Int] at hmk
      have HO := Lib.hid (show ord 3 = 23 from rfl)
      have HZ := Lib.hid (show askB 3 (List.replicate 23 0) = true from zeros_ask (by omega) (by omega))
      go_wp2_with fail
      refine (sord_any _ _).mono ?_
      rintro e w4 ⟨rfl, hb⟩
      rw [HO.out]
      have T4 := Lib.hid (Below.on T3.out hb)
      clear hb
      have OZ := Lib.hid (own_make w4 23 (by omega))
      have BZ := Lib.hid (Below.on T4.out (below_alloc w4 (.cells (madeCells #[.int .i64 0] 23) 3)))
      have IZ := Lib.hid (Ints.of_own OZ.out (by rw [List.length_replicate]; unfold maxLen; omega))
      go_wp2_with fail
      refine (iask_any _ _ (List.replicate 23 0) _ (FB.out _ BZ.out).1.1 IZ.out).mono ?_
      rintro e w5 ⟨rfl, hb⟩
      rw [HZ.out]
      have T5 := Lib.hid (Below.on BZ.out hb)
      clear hb OZ BZ IZ T4
      go_wp2_with fail
      refine (sord_any _ _).mono ?_
      rintro e w6 ⟨rfl, hb⟩
      rw [HO.out]
      have T6 := Lib.hid (Below.on T5.out hb)
      clear hb
      go_wp2_with fail
      refine (alive_any _ (FB.out _ T6.out).1.1).mono ?_
      rintro e wz ⟨rfl, rfl⟩
      go_wp2
      go_ret
      exact ⟨rfl, (FB.out _ T6.out).2⟩
  · have hmk := run_make_row' (P := Tryd.prog) 23 3 (.int .i64 0) 8 Tryd.underlying23 infoInt rfl .i64 .i64 1 (by omega) (by omega)
    simp only [Int.cast_ofNat_Int] at hmk
    have HO := Lib.hid (ord_none hg)
    have HZ := Lib.hid (show askB g (List.replicate 1 0) = false from askB_false.2 fun h => hg h.1)
    go_wp2_with fail
    refine (sord_any _ _).mono ?_
    rintro e w4 ⟨rfl, hb⟩
    rw [HO.out]
    have T4 := Lib.hid (Below.on T3.out hb)
    clear hb
    have OZ := Lib.hid (own_make w4 1 (by omega))
    have BZ := Lib.hid (Below.on T4.out (below_alloc w4 (.cells (madeCells #[.int .i64 0] 1) 3)))
    have IZ := Lib.hid (Ints.of_own OZ.out (by rw [List.length_replicate]; unfold maxLen; omega))
    go_wp2_with fail
    refine (iask_any _ _ (List.replicate 1 0) _ (FB.out _ BZ.out).1.1 IZ.out).mono ?_
    rintro e w5 ⟨rfl, hb⟩
    rw [HZ.out]
    have T5 := Lib.hid (Below.on BZ.out hb)
    clear hb OZ BZ IZ T4
    go_wp2_with fail
    refine (sord_any _ _).mono ?_
    rintro e w6 ⟨rfl, hb⟩
    rw [HO.out]
    have T6 := Lib.hid (Below.on T5.out hb)
    clear hb
    go_wp2_with fail
    refine (alive_any _ (FB.out _ T6.out).1.1).mono ?_
    rintro e wz ⟨rfl, rfl⟩
    go_wp2
    go_ret
    exact ⟨rfl, (FB.out _ T6.out).2⟩
end Go.Proofs.YtlcegpmhlnilfabDoor
