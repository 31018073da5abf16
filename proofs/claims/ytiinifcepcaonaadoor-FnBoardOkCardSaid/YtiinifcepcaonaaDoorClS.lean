/- spec: ClaimOk. -/
import Derived.Test.YtiinifcepcaonaaDoorBCl
namespace Go.Proofs.YtiinifcepcaonaaDoor
open Go.RowKit

theorem l1In_is {n a b : Int} {r : Bool} (h : (decide (a ≤ n) && decide (n ≤ b)) = r) (w : World) : Calls Tryd.prog 38 #[.int .i64 n, .int .i64 a, .int .i64 b] w fun e w' => e = .returned (.bool r) ∧ w = w' := by rw [← h]; exact l1In_any n a b w
theorem sel_is {g a : Int} {r : Bool} (h : elB g a = r) (w : World) : Calls Tryd.prog 58 #[.int .i64 g, .int .i64 a] w fun e w' => e = .returned (.bool r) ∧ Below w.heap.size w w' := by rw [← h]; exact sel_any g a w
/-- What the first k rounds of spec.ClaimOk have shown. -/
structure ClTo (g : Int) (rows : List (List Int)) (makes : List Int) (k : Nat) : Prop where
  row : RowsTo g rows k
  u : 0 < k → 1 ≤ unk rows ∧ unk rows ≤ 2
  makes : ∀ j, j < k → elB g (nth makes j) = true

end Go.Proofs.YtiinifcepcaonaaDoor
