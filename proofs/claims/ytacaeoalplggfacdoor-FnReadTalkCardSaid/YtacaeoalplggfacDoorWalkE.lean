/- Contracts of spec's products, powers, logarithms and inverses. -/
import Derived.Test.YtacaeoalplggfacDoorWalkD
namespace Go.Proofs.YtacaeoalplggfacDoor
open Go.RowKit

end Go.Proofs.YtacaeoalplggfacDoor
