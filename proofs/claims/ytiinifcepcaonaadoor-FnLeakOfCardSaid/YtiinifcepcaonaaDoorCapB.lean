/- Slices whose length is at most their capacity. -/
import Derived.Test.YtiinifcepcaonaaDoorBRd
namespace Go.Proofs.YtiinifcepcaonaaDoor
open Go.RowKit

/-- A slice whose length is at most its capacity. -/
def capB (v : Value) : Prop := ∀ a n c, v = .slice a n c → n ≤ c
theorem capB.mk {a : Option Addr} {n c : Nat} (h : n ≤ c) : capB (.slice a n c) := fun _ _ _ e => by cases e; exact h
theorem Own.capped {w : World} {B : Nat} {v : Value} {xs : List Int} (h : Own w B v xs) : capB v := by
  rcases id h.2 with ⟨rfl, _⟩ | ⟨g', cap', cur, rfl, _, _, h3, _⟩
  · exact capB.mk (Nat.le_refl _)
  · exact capB.mk h3
end Go.Proofs.YtiinifcepcaonaaDoor
