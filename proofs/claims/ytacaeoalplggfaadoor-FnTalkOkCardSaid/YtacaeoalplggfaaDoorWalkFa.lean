/- hasInt and sameInts. -/
import Derived.Test.YtacaeoalplggfaaDoorWalkF
namespace Go.Proofs.YtacaeoalplggfaaDoor
open Go.RowKit

end Go.Proofs.YtacaeoalplggfaaDoor
