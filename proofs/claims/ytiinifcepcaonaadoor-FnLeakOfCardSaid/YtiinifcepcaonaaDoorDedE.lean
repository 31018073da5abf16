/- Two deeds compared. -/
import Derived.Test.YtiinifcepcaonaaDoorBTalk
namespace Go.Proofs.YtiinifcepcaonaaDoor
open Go.RowKit

theorem deedStood : Tryd.prog.stoodInHeld 87 = false := by kernel_rfl
theorem deedGuard : Tryd.prog.eqGuardType Tryd.prog.depth 87 = false := by kernel_rfl
theorem deedFields : Tryd.prog.underlying 87 = some (.struct (Tryd.prog.fieldsOf 87)) := by kernel_rfl
def dedB (k n : Int) (t : ByteArray) (k' n' : Int) (t' : ByteArray) : Bool := decide (k = k') && decide (n = n') && (t.toList == t'.toList)
theorem run_equal_deed (k n : Int) (t : ByteArray) (k' n' : Int) (t' : ByteArray) (w : World) : (Op.equalIn 10000 87 (.agg #[.int .i64 k, .int .i64 n, .string t]) (.agg #[.int .i64 k', .int .i64 n', .string t'])).run Tryd.prog w = .ok (dedB k n t k' n' t') w := by
  rw [run_equalIn_struct w 9999 _ _ _ deedFields deedStood]
  by_cases h1 : k = k' <;> by_cases h2 : n = n' <;> cases h3 : (t.toList == t'.toList) <;> simp [Program.fieldsOf, Tryd.underlying87, Op.eqFields, go_sem, dedB, h1, h2, h3, Tryd.underlying3, Tryd.underlying9]
end Go.Proofs.YtiinifcepcaonaaDoor
