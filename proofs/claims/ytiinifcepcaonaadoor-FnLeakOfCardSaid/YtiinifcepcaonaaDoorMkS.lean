/- spec: l3Exps, l3Make, l3Same, RowsMake, Solves. -/
import Derived.Test.YtiinifcepcaonaaDoorClS
import Derived.Test.YtiinifcepcaonaaDoorBSol
namespace Go.Proofs.YtiinifcepcaonaaDoor
open Go.RowKit

theorem sex_is {g n : Int} {r : Bool} (h : exB g n = r) (w : World) : Calls Tryd.prog 82 #[.int .i64 g, .int .i64 n] w fun e w' => e = .returned (.bool r) ∧ Below w.heap.size w w' := by rw [← h]; exact sex_any g n w

/-- What spec.l3Make is asked only of. -/
structure Mk (g : Int) (rows : List (List Int)) (es : List Int) : Prop where
  g0 : 0 ≤ g
  g4 : g < 4
  r3 : rows.length ≤ 3
  u2 : es.length ≤ 2
  row : ∀ j, j < rows.length → (row rows j).length = es.length ∧ allEl g (row rows j) = true
  ex : allEx g es = true
theorem Lot.mkd {g : Int} {rows : List (List Int)} {makes es : List Int} (h : Lot g rows makes es) : Mk g rows es :=
  ⟨h.cl.g0, h.cl.g4, h.cl.r3, by rw [h.len]; exact h.cl.u2, fun j hj => by rw [h.len]; exact h.cl.row j hj, h.ex⟩

end Go.Proofs.YtiinifcepcaonaaDoor
