/- spec.TableOk. -/
import Derived.Test.YtipndddmjgjgpabDoorTabI
import Derived.Deep.Quiet
import Derived.Deep.RegionHeld3
import Derived.Laws.ResultCell
import Derived.Outline
import Derived.BigQuiet
namespace Go.Proofs.YtipndddmjgjgpabDoor
open Go.RowKit

theorem l1In_tb {n a b : Int} {r : Bool} (h : (decide (a ≤ n) && decide (n ≤ b)) = r) (w : World) : Calls Tryd.prog 58 #[.int .i64 n, .int .i64 a, .int .i64 b] w fun e w' => e = .returned (.bool r) ∧ w = w' := by rw [← h]; exact l1In_any n a b w
/-- One walk of the text serves every order, at whatever class of worlds that the region's first world is of. -/
theorem wp_region_cls {P : Program} {C : World → Prop} {id : Nat} {Q : Exit → Act → World → Prop} {a : Act} {w : World} {l : List Oper} (hm : P.follows .mixedOrders = true) (hB : Region.lexB .any l.toArray = true) (hC : C w.drew)
    (h : wpQuiet P l.toArray C (fun a' => ∀ w', C w' → Q .normal a' w') l a) : (Code.region id l.toArray true).wp P Q a w :=
  wp_region_quiet (C := C) hm hB hC (by simpa using h)

/-- What the first k rounds of spec.TableOk have shown. -/
structure TsTo (t : List (List Int)) (k : Nat) : Prop where
  rs : TabTo t k
  u : 0 < k → 1 ≤ (row t 0).length ∧ (row t 0).length ≤ 8

end Go.Proofs.YtipndddmjgjgpabDoor
