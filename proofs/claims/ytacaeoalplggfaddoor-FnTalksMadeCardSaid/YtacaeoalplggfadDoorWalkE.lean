/- Contracts of spec's products, powers, logarithms and inverses. -/
import Derived.Test.YtacaeoalplggfadDoorWalkD
namespace Go.Proofs.YtacaeoalplggfadDoor
open Go.RowKit

end Go.Proofs.YtacaeoalplggfadDoor
