/- impl.Solves. -/
import Derived.Test.YtipndddmjgjgpabDoorBCl
import Derived.Test.YtipndddmjgjgpabDoorBReg
namespace Go.Proofs.YtipndddmjgjgpabDoor
open Go.RowKit

/-- A box, and perhaps a list of the call's own. -/
def Kv (w : World) (P : List Value) (T : TypeId) (xs : List Int) (z : Option Value) (w' : World) : Prop := InB w P T w' ∧ ∀ v, z = some v → Own w' (w.heap.size + 1) v xs
theorem Kv.on {w : World} {P : List Value} {T : TypeId} {xs : List Int} {z : Option Value} {w1 w2 : World} (h : Kv w P T xs z w1) (hb : Below w1.heap.size w1 w2) : Kv w P T xs z w2 := ⟨h.1.on hb, fun v hv => own_below (h.2 v hv) hb⟩

end Go.Proofs.YtipndddmjgjgpabDoor
