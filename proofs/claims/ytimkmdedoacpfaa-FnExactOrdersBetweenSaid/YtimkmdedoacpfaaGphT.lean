/- spec: OrderThen, OrderBack, l7Moved, GraphMoved. -/
import Derived.Test.YtimkmdedoacpfaaGphS
import Derived.Test.YtimkmdedoacpfaaBLot
namespace Go.Proofs.Ytimkmdedoacpfaa
open Go.RowKit

def thB (a b : List Int) : Bool := odB a a.length && odB b a.length
/-- OrderThen. -/
def thL (a b : List Int) : List Int := if thB a b then thn a b else []
theorem thL_yes {a b : List Int} (h : thB a b = true) : thL a b = thn a b := by simp [thL, h]
theorem thL_no {a b : List Int} (h : thB a b = false) : thL a b = [] := by simp [thL, h]
theorem thB_true {a b : List Int} : thB a b = true ↔ Od a a.length ∧ Od b a.length := by unfold thB; rw [Bool.and_eq_true, odB_true, odB_true]
/-- OrderBack. -/
def bkL (a : List Int) : List Int := if odB a a.length then bck a else []
theorem bkL_yes {a : List Int} (h : odB a a.length = true) : bkL a = bck a := by simp [bkL, h]
theorem bkL_no {a : List Int} (h : odB a a.length = false) : bkL a = [] := by simp [bkL, h]
theorem sod_is {v : Value} {o : List Int} {m : Int} {w : World} {r : Bool} (hr : odB o m = r) (h : Ints w v o) : Calls Try.prog 50 #[v, .int .i64 m] w fun e w' => e = .returned (.bool r) ∧ Below w.heap.size w w' := by rw [← hr]; exact sod_any v o m w h
theorem sgk_is {p : Int} {v : Value} {es : List Int} {w : World} {r : Bool} (hr : gkB p es = r) (h : Ints w v es) (hp : intIn p) (hs : ∀ j, j < es.length → intIn (nth es j)) : Calls Try.prog 52 #[.agg #[.int .i64 p, v]] w fun e w' => e = .returned (.bool r) ∧ Below w.heap.size w w' := by rw [← hr]; exact sgk_any p v es w h hp hs

end Go.Proofs.Ytimkmdedoacpfaa
