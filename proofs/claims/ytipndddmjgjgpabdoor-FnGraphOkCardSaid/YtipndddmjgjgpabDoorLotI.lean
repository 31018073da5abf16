/- impl.lotsOf, impl.SolutionsOf. -/
import Derived.Test.YtipndddmjgjgpabDoorNumI
import Derived.Test.YtipndddmjgjgpabDoorSolI
namespace Go.Proofs.YtipndddmjgjgpabDoor
open Go.RowKit

/-- A box, and perhaps a list of lists of the call's own. -/
def Kl (w : World) (P : List Value) (T : TypeId) (L : List (List Int)) (z : Option (Value × List Value)) (w' : World) : Prop := InB w P T w' ∧ ∀ v us, z = some (v, us) → OwnSS w' (w.heap.size + 1) w'.heap.size v us L
theorem OwnSS.onAll {w w' : World} {lo : Nat} {v : Value} {us : List Value} {xss : List (List Int)} (h : OwnSS w lo w.heap.size v us xss) (hb : Below w.heap.size w w') : OwnSS w' lo w'.heap.size v us xss := (h.on hb).wider hb.size
theorem Kl.on {w : World} {P : List Value} {T : TypeId} {L : List (List Int)} {z : Option (Value × List Value)} {w1 w2 : World} (h : Kl w P T L z w1) (hb : Below w1.heap.size w1 w2) : Kl w P T L z w2 := ⟨h.1.on hb, fun v us hv => (h.2 v us hv).onAll hb⟩

end Go.Proofs.YtipndddmjgjgpabDoor
