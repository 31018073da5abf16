/- What a bare row's proof needs (a seat without doors): the program's head; lists of numbers and lists of lists that came in as arguments. -/
import Derived.Test.YtlcegpmhlnilfaaRows
import Derived.Test.YtlcegpmhlnilfaaBRd
import Derived.ProofKit
import Derived.OpenShut
import Derived.ChangeOld
import Derived.Deep.Strs
import Derived.Deep.Matrix
namespace Go.Proofs.Ytlcegpmhlnilfaa
open Go.ChangeShapes Go.WideShapes Go.ChangeAt Go.RowKit

theorem own0 : ownKnob Try.prog.godebug = none := by kernel_rfl
theorem laidOut : laidOutB Try.prog = true := by kernel_rfl
theorem cInt : Try.prog.cellsOf 3 = 1 := by kernel_rfl
set_option maxRecDepth 100000 in
theorem cSlice : Try.prog.cellsOf 22 = 1 := by kernel_rfl
set_option maxRecDepth 100000 in
theorem cSliceS : Try.prog.cellsOf 46 = 1 := by kernel_rfl
theorem take_nth {zs : List Int} {n : Nat} (hl : n ≤ zs.length) : (zs.take n).length = n ∧ ∀ j, j < n → nth (zs.take n) j = zs.getD j 0 := by
  refine ⟨by simp; omega, fun j hj => ?_⟩
  unfold nth
  rw [List.getD_eq_getElem?_getD, List.getD_eq_getElem?_getD, List.getElem?_take, if_pos hj]
theorem ints_of_trod {H : Type} {enc : TypeId × Value → H} {W : World} {fuel : Nat} {c : Value} {x : DataW H × List MemPlace}
    (h : DataW.trod enc Try.prog W 0 (fun _ => true) true fuel 22 [c] = some x) : ∃ a cap xs, c = .slice a xs.length cap ∧ ArgI W a xs ∧ xs.length ≤ maxLen := by
  rcases open_ints Try.underlying22 Try.underlying3 cInt h with ⟨hcs, _⟩ | ⟨ad, l, cap, zs, hcs, _, hl, hm, hz, _, hcell, _⟩
  · simp at hcs
    exact ⟨none, 0, [], by rw [hcs]; rfl, ⟨fun j hj => by simp at hj⟩, by simp⟩
  · simp at hcs
    simp only [if_true] at hz
    obtain ⟨t1, t2⟩ := take_nth (zs := zs) (n := l) (by omega)
    refine ⟨some ad, cap, zs.take l, by rw [hcs, t1], ⟨fun j hj => ?_⟩, by rw [t1]; omega⟩
    rw [t1] at hj
    exact ⟨ad, rfl, by rw [t2 j hj]; exact hcell j (by omega)⟩
theorem rows_of_trod {H : Type} {enc : TypeId × Value → H} {W : World} {fuel : Nat} {c : Value} {x : DataW H × List MemPlace}
    (h : DataW.trod enc Try.prog W 0 (fun _ => true) true fuel 46 [c] = some x) : ∃ a cap xss, c = .slice a xss.length cap ∧ ArgSS W a xss ∧ xss.length ≤ maxLen ∧ ∀ j, j < xss.length → (row xss j).length ≤ maxLen := by
  rcases Go.Deep.open_int_rows Try.underlying46 Try.underlying22 Try.underlying3 cSlice cInt h with ⟨hcs, _⟩ | ⟨ad, l, cap, A, L, C, Z, hcs, _, hl, hm, _, hall⟩
  · simp at hcs
    exact ⟨none, 0, [], by rw [hcs]; rfl, ⟨fun j hj => by simp at hj⟩, by simp, fun j hj => by simp at hj⟩
  · simp at hcs
    have hlen : ((List.range l).map fun r => (Z r).take (L r)).length = l := by simp
    have hrow : ∀ j, j < l → row ((List.range l).map fun r => (Z r).take (L r)) j = (Z j).take (L j) := fun j hj => by
      rw [row_get (by rw [hlen]; exact hj)]; simp
    refine ⟨some ad, cap, (List.range l).map fun r => (Z r).take (L r), by rw [hcs, hlen], ⟨fun j hj => ?_⟩, by rw [hlen]; omega, fun j hj => ?_⟩
    · rw [hlen] at hj
      obtain ⟨e1, e2, e3, e4, _, e6, e7⟩ := hall j (by omega)
      obtain ⟨t1, t2⟩ := take_nth (zs := Z j) (n := L j) (by omega)
      rw [hrow j hj, t1]
      refine ⟨ad, A j, C j, rfl, e1, ⟨fun i hi => ?_⟩⟩
      rw [t1] at hi
      cases hA : A j with
      | none => have := e6 hA; omega
      | some a' => exact ⟨a', rfl, by rw [t2 i hi]; exact (e7 a' hA).2 i (by omega)⟩
    · rw [hlen] at hj
      obtain ⟨e1, e2, e3, e4, _⟩ := hall j (by omega)
      obtain ⟨t1, _⟩ := take_nth (zs := Z j) (n := L j) (by omega)
      rw [hrow j hj, t1]; omega
theorem argI_of_trod {H : Type} {enc : TypeId × Value → H} {W : World} {v : Value} {d : DataW H} {p : List MemPlace} {a : Option Addr} {len cap : Nat}
    (hv : v = .slice a len cap) (h : DataW.Trod enc Try.prog W 0 (fun _ => true) true 22 v d p) : ∃ a cap xs, v = .slice a xs.length cap ∧ ArgI W a xs ∧ xs.length ≤ maxLen := by
  subst hv
  obtain ⟨fuel, hf⟩ := h
  exact ints_of_trod hf
theorem argSS_of_trod {H : Type} {enc : TypeId × Value → H} {W : World} {v : Value} {d : DataW H} {p : List MemPlace} {a : Option Addr} {len cap : Nat}
    (hv : v = .slice a len cap) (h : DataW.Trod enc Try.prog W 0 (fun _ => true) true 46 v d p) : ∃ a cap xss, v = .slice a xss.length cap ∧ ArgSS W a xss ∧ xss.length ≤ maxLen ∧ ∀ j, j < xss.length → (row xss j).length ≤ maxLen := by
  subst hv
  obtain ⟨fuel, hf⟩ := h
  exact rows_of_trod hf
end Go.Proofs.Ytlcegpmhlnilfaa
