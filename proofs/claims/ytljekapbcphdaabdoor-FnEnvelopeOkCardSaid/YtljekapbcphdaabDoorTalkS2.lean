/- spec.TalkOk: a region that draws its order, with loads and calls that make memory, some of them guarded: walked once in the order of the text, at a class of worlds. -/
import Derived.Test.YtljekapbcphdaabDoorTalkS
namespace Go.Proofs.YtljekapbcphdaabDoor
open Go.RowKit

/-- One walk of the text serves every order, at whatever class of worlds that the region's first world is of. -/
theorem wp_region_class {P : Program} {C : World → Prop} {id : Nat} {Q : Exit → Act → World → Prop} {a : Act} {w : World} {l : List Oper} (hm : P.follows .mixedOrders = true) (hB : Region.lexB .any l.toArray = true) (hC : C w.drew)
    (h : wpQuiet P l.toArray C (fun a' => ∀ w', C w' → Q .normal a' w') l a) : (Code.region id l.toArray true).wp P Q a w :=
  wp_region_quiet (C := C) hm hB hC (by simpa using h)

end Go.Proofs.YtljekapbcphdaabDoor
