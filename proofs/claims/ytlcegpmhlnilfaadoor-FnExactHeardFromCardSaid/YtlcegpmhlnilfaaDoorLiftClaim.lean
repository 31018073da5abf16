/- Relations, talks on relations and lists of numbers that came in as arguments. -/
import Derived.Test.YtlcegpmhlnilfaaDoorLift
import Derived.Test.YtlcegpmhlnilfaaDoorBRd
import Derived.Deep.Matrix
namespace Go.Proofs.YtlcegpmhlnilfaaDoor
open Go.ChangeShapes Go.WideShapes Go.ChangeAt Go.RowKit

set_option maxRecDepth 100000 in
theorem cSlice : Tryd.prog.cellsOf 22 = 1 := by kernel_rfl
theorem take_nth {zs : List Int} {n : Nat} (hl : n ≤ zs.length) : (zs.take n).length = n ∧ ∀ j, j < n → nth (zs.take n) j = zs.getD j 0 := by
  refine ⟨by simp; omega, fun j hj => ?_⟩
  unfold nth
  rw [List.getD_eq_getElem?_getD, List.getD_eq_getElem?_getD, List.getElem?_take, if_pos hj]

theorem ints_of_trod {H : Type} {enc : TypeId × Value → H} {W : World} {fuel : Nat} {c : Value} {x : DataW H × List MemPlace}
    (h : DataW.trod enc Tryd.prog W 0 (fun _ => true) true fuel 22 [c] = some x) : ∃ a cap xs, c = .slice a xs.length cap ∧ ArgI W a xs ∧ xs.length ≤ maxLen := by
  rcases open_ints Tryd.underlying22 Tryd.underlying3 cInt h with ⟨hcs, _⟩ | ⟨ad, l, cap, zs, hcs, _, hl, hm, hz, _, hcell, _⟩
  · simp at hcs
    exact ⟨none, 0, [], by rw [hcs]; rfl, ⟨fun j hj => by simp at hj⟩, by simp⟩
  · simp at hcs
    simp only [if_true] at hz
    obtain ⟨t1, t2⟩ := take_nth (zs := zs) (n := l) (by omega)
    refine ⟨some ad, cap, zs.take l, by rw [hcs, t1], ⟨fun j hj => ?_⟩, by rw [t1]; omega⟩
    rw [t1] at hj
    exact ⟨ad, rfl, by rw [t2 j hj]; exact hcell j (by omega)⟩

theorem argI_of_trod {H : Type} {enc : TypeId × Value → H} {W : World} {v : Value} {d : DataW H} {p : List MemPlace} {a : Option Addr} {len cap : Nat}
    (hv : v = .slice a len cap) (h : DataW.Trod enc Tryd.prog W 0 (fun _ => true) true 22 v d p) : ∃ a cap xs, v = .slice a xs.length cap ∧ ArgI W a xs ∧ xs.length ≤ maxLen := by
  subst hv
  obtain ⟨fuel, hf⟩ := h
  exact ints_of_trod hf

end Go.Proofs.YtlcegpmhlnilfaaDoor
