/- spec.SecretFrom. -/
import Derived.Test.YtljekapbcphdaaaDoorTalkS2
namespace Go.Proofs.YtljekapbcphdaaaDoor
open Go.RowKit

def secB (g key s1 a1 t1 s2 a2 t2 : Int) : Bool := tokB g key s1 a1 t1 && tokB g key s2 a2 t2 && decide (s1 = s2) && decide (a1 ≠ a2)
theorem secB_true {g key s1 a1 t1 s2 a2 t2 : Int} : secB g key s1 a1 t1 s2 a2 t2 = true ↔ tokB g key s1 a1 t1 = true ∧ tokB g key s2 a2 t2 = true ∧ s1 = s2 ∧ a1 ≠ a2 := by unfold secB; simp [and_assoc]

end Go.Proofs.YtljekapbcphdaaaDoor
