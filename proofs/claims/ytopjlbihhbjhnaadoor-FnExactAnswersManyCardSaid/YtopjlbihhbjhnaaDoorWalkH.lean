/- spec.ElementsOf: a new slice with the elements in ascending order. -/
import Derived.Test.YtopjlbihhbjhnaaDoorWalkG
namespace Go.Proofs.YtopjlbihhbjhnaaDoor
open Go.RowKit

theorem own_made (w : World) (T : TypeId) (hT : T = 3) : Own (w.alloc (.cells #[] T)) w.heap.size (.slice (some ⟨w.heap.size, 0, none⟩) 0 0) [] := by
  subst hT
  exact World.ownsRow_made w #[] 0 (Nat.le_refl _) (Nat.zero_le _) rfl

end Go.Proofs.YtopjlbihhbjhnaaDoor
