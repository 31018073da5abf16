/- The law FnOrderOk, walked. -/
import Derived.Test.YtlcegpmhlnilfabDoorDrI
import Derived.Test.YtlcegpmhlnilfabDoorGphI
import Derived.Test.YtlcegpmhlnilfabDoorGphS
import Derived.Test.YtlcegpmhlnilfabDoorBLaw
import Derived.Deep.Cut
namespace Go.Proofs.YtlcegpmhlnilfabDoor
open Go.RowKit

theorem Own.form_ints {w : World} {v : Value} {xs : List Int} (h : Ints w v xs) : ∃ a c, v = .slice a xs.length c := by
  obtain ⟨a, c, e, _⟩ := h.opened
  exact ⟨a, c, e⟩
/-- A list that is not empty: where it lies, and its numbers. -/
theorem Li.lies {w : World} {v : Value} {xs : List Int} (h : Li w v xs) (h0 : 0 < xs.length) : ∃ G c, v = .slice (some ⟨G, 0, none⟩) xs.length c ∧ ∀ w', Below w.heap.size w w' → ∀ j, j < xs.length → w'.cell? ⟨G, j, none⟩ = some (.int .i64 (nth xs j)) := by
  have hi := h.ints
  rcases hi with ⟨rfl, rfl⟩ | ⟨g, cap, rfl, _, hg, hc⟩
  · simp at h0
  · exact ⟨_, _, rfl, fun w' hb j hj => (hb.cell (p := ⟨g, j, none⟩) hg).trans (hc j hj)⟩

end Go.Proofs.YtlcegpmhlnilfabDoor
