/- hasInt and sameInts. -/
import Derived.Test.YtacaeoalplggfadDoorWalkF
namespace Go.Proofs.YtacaeoalplggfadDoor
open Go.RowKit

end Go.Proofs.YtacaeoalplggfadDoor
