/- hasInt and sameInts. -/
import Derived.Test.YtacaeoalplggfacDoorWalkF
namespace Go.Proofs.YtacaeoalplggfacDoor
open Go.RowKit

end Go.Proofs.YtacaeoalplggfacDoor
