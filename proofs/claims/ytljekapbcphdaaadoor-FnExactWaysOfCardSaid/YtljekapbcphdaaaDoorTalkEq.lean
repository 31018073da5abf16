/- Two talks compared with == and !=. -/
import Derived.Test.YtljekapbcphdaaaDoorBWalk
import Derived.Laws.StructEq
namespace Go.Proofs.YtljekapbcphdaaaDoor
open Go.RowKit

def talkB (s a t s' a' t' : Int) : Bool := decide (s = s') && decide (a = a') && decide (t = t')
theorem talkB_refl (s a t : Int) : talkB s a t s a t = true := by simp [talkB]
end Go.Proofs.YtljekapbcphdaaaDoor
