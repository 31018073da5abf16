/- The law FnSomeOk, walked. -/
import Derived.Test.YtacalanlepjljaaDoorDrawSl
import Derived.Test.YtacalanlepjljaaDoorSomS
import Derived.Test.YtacalanlepjljaaDoorSomI
import Derived.Test.YtacalanlepjljaaDoorPolY
import Derived.Test.YtacalanlepjljaaDoorLawsA
namespace Go.Proofs.YtacalanlepjljaaDoor
open Go.RowKit

set_option maxRecDepth 20000 in
set_option maxHeartbeats 3200000 in
theorem lSomeOk_walk (s : Value) (w : World) (h : CodeIn w s) (G : Gr w) : Calls Tryd.prog 6 #[s] w fun e w' => e = .returned (.bool true) ∧ Below w.heap.size w w' := by
  obtain ⟨a0, len0, cap0, rfl⟩ := h.slice
  have H := Lib.hid h; clear h
  have G0 := Lib.hid G; clear G
  by_cases hl : 1048576 < len0
  · go_enter Tryd.func6, Tryd.ntmps6
    go_wp2
    go_ret
    exact ⟨rfl, Below.refl _ _⟩
  go_enter Tryd.func6, Tryd.ntmps6
  go_wp2_with fail
  refine (drawSomeOk_any _ _ H.out).mono ?_
  rintro e w1 ⟨g, kv, keys, need, sv, q, xv, tv, ss, xs, ts, rfl, hd, hlen, l1, l2, l3, hI1, hI2, hI3, hI4, hb⟩
  obtain ⟨ka, kc, rfl, _⟩ := hI1.opened
  obtain ⟨sa, sc, rfl, _⟩ := hI2.opened
  obtain ⟨xa, xc, rfl, _⟩ := hI3.opened
  obtain ⟨ta, tc, rfl, _⟩ := hI4.opened
  obtain ⟨w2, hw2⟩ : ∃ z, z = w1.alloc (.cells #[.slice sa ss.length sc, .int .i64 q, .slice xa xs.length xc, .slice ta ts.length tc] 24) := ⟨_, rfl⟩
  have FB := Lib.hid (show ∀ w', Below w2.heap.size w2 w' → (Gr w' ∧ Ints w' (.slice ka keys.length kc) keys ∧ (Ints w' (.slice sa ss.length sc) ss ∧ Ints w' (.slice xa xs.length xc) xs ∧ Ints w' (.slice ta ts.length tc) ts)) ∧ Box w' w1.heap.size [.slice sa ss.length sc, .int .i64 q, .slice xa xs.length xc, .slice ta ts.length tc] ∧ Below w.heap.size w w' from fun w' hb' => by
    rw [hw2] at hb'
    have h3 := Below.on (below_grow w1 (.cells #[.slice sa ss.length sc, .int .i64 q, .slice xa xs.length xc, .slice ta ts.length tc] 24)) hb'
    exact ⟨⟨G0.out.on (Below.on hb h3), hI1.below h3, hI2.below h3, hI3.below h3, hI4.below h3⟩, (Box.made w1 _ _).on hb', Below.on hb h3⟩)
  have T2 := Lib.hid (Below.refl w2.heap.size w2)
  clear hI1 hI2 hI3 hI4 hb
  obtain ⟨b, hbb⟩ : ∃ b, someB g keys need ss q xs ts = b := ⟨_, rfl⟩
  have HBB := Lib.hid hbb
  have HLS := Lib.hid (show b = true → ∀ k : Nat, 1 ≤ k → (k : Int) < need → someB g keys k ss q xs ts = true from fun e k k1 k2 => someB_true.2 ((someB_true.1 (hbb.trans e)).less (by omega) (by omega)))
  have hbn : (b != b) = false := by simp
  clear hbb
  have HW2 := Lib.hid hw2
  have q0 := (FB.out _ T2.out).2.1.cell 0; have q1 := (FB.out _ T2.out).2.1.cell 1; have q2_ := (FB.out _ T2.out).2.1.cell 2; have q3 := (FB.out _ T2.out).2.1.cell 3
  simp at q0 q1 q2_ q3
  rw [hw2] at q0 q1 q2_ q3
  clear hw2
  go_wp2_with fail
  rw [← HW2.out]
  refine (isome_any g need _ keys _ q _ _ ss xs ts _ (FB.out _ T2.out).1.1 (FB.out _ T2.out).1.2.1 (FB.out _ T2.out).1.2.2.1 (FB.out _ T2.out).1.2.2.2.1 (FB.out _ T2.out).1.2.2.2.2).mono ?_
  rintro e wn ⟨rfl, hb⟩
  rw [HBB.out]
  have T3 := Lib.hid (Below.on T2.out hb)
  clear hb q0 q1 q2_ q3
  have q0 := (FB.out _ T3.out).2.1.cell 0; have q1 := (FB.out _ T3.out).2.1.cell 1; have q2_ := (FB.out _ T3.out).2.1.cell 2; have q3 := (FB.out _ T3.out).2.1.cell 3
  simp at q0 q1 q2_ q3
  go_wp2_with fail
  refine (ssome_any g need _ keys _ q _ _ ss xs ts _ (FB.out _ T3.out).1.2.1 (FB.out _ T3.out).1.2.2.1 (FB.out _ T3.out).1.2.2.2.1 (FB.out _ T3.out).1.2.2.2.2).mono ?_
  rintro e wn ⟨rfl, hb⟩
  rw [HBB.out]
  have T4 := Lib.hid (Below.on T3.out hb)
  clear hb q0 q1 q2_ q3
  go_wp2
  go_loopw [8] (fun i wr => ∃ k : Nat, 1 ≤ k ∧ (k : Int) ≤ need ∧ i = .int .i64 k ∧ Hid (Below w2.heap.size w2 wr)) (fun i _ => (need - intOf i).toNat)
  case atStart => exact ⟨1, by omega, by omega, rfl, T4⟩
  case round =>
    obtain ⟨k, k1, k2, rfl, hB⟩ := hrel
    obtain ⟨wo, rfl⟩ : ∃ wo : World, wo = wr := ⟨_, rfl⟩
    clear T2 T3 T4 hbn
    by_cases hkn : (k : Int) < need
    · have hkd : decide ((k : Int) < need) = true := by simpa using hkn
      cases b
      · go_wp2_with fail
        refine (alive_any _ (FB.out _ hB.out).1.1).mono ?_
        rintro e wz ⟨rfl, rfl⟩
        go_wp2
        go_ret
        exact ⟨rfl, (FB.out _ hB.out).2.2⟩
      · have HL := Lib.hid (HLS.out rfl k k1 hkn)
        have q0 := (FB.out _ hB.out).2.1.cell 0; have q1 := (FB.out _ hB.out).2.1.cell 1; have q2_ := (FB.out _ hB.out).2.1.cell 2; have q3 := (FB.out _ hB.out).2.1.cell 3
        simp at q0 q1 q2_ q3
        go_wp2_with fail
        refine (isome_any g k _ keys _ q _ _ ss xs ts _ (FB.out _ hB.out).1.1 (FB.out _ hB.out).1.2.1 (FB.out _ hB.out).1.2.2.1 (FB.out _ hB.out).1.2.2.2.1 (FB.out _ hB.out).1.2.2.2.2).mono ?_
        rintro e wn ⟨rfl, hb⟩
        rw [HL.out]
        have T5 := Lib.hid (Below.on hB.out hb)
        clear hb q0 q1 q2_ q3
        go_wp2
        go_roundw
        case rel => exact ⟨k + 1, by omega, by omega, by go_num, T5⟩
        case measure => simp [intOf]; omega
    · have hkd : decide ((k : Int) < need) = false := by simpa using hkn
      go_wp2_with fail
      refine (alive_any _ (FB.out _ hB.out).1.1).mono ?_
      rintro e wz ⟨rfl, rfl⟩
      go_wp2
      go_ret
      exact ⟨rfl, (FB.out _ hB.out).2.2⟩
end Go.Proofs.YtacalanlepjljaaDoor
