/- Two talks compared with == and !=. -/
import Derived.Test.YtljekapbcphdaabDoorBWalk
import Derived.Laws.StructEq
namespace Go.Proofs.YtljekapbcphdaabDoor
open Go.RowKit

theorem talkStood : Tryd.prog.stoodInHeld 84 = false := by kernel_rfl
theorem talkGuard : Tryd.prog.eqGuardType Tryd.prog.depth 84 = false := by kernel_rfl
theorem talkFields : Tryd.prog.underlying 84 = some (.struct (Tryd.prog.fieldsOf 84)) := by kernel_rfl
def talkB (s a t s' a' t' : Int) : Bool := decide (s = s') && decide (a = a') && decide (t = t')
theorem talkB_refl (s a t : Int) : talkB s a t s a t = true := by simp [talkB]
theorem run_equal_talk (s a t s' a' t' : Int) (w : World) : (Op.equalIn 10000 84 (.agg #[.int .i64 s, .int .i64 a, .int .i64 t]) (.agg #[.int .i64 s', .int .i64 a', .int .i64 t'])).run Tryd.prog w = .ok (talkB s a t s' a' t') w := by
  rw [run_equalIn_struct w 9999 _ _ _ talkFields talkStood]
  by_cases h1 : s = s' <;> by_cases h2 : a = a' <;> by_cases h3 : t = t' <;> simp [Program.fieldsOf, Tryd.underlying84, Op.eqFields, go_sem, talkB, h1, h2, h3, Tryd.underlying3]
end Go.Proofs.YtljekapbcphdaabDoor
