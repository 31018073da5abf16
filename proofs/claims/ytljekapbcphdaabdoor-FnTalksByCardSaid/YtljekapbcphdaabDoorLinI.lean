/- impl.LinesUp. -/
import Derived.Test.YtljekapbcphdaabDoorAskI
import Derived.Test.YtljekapbcphdaabDoorKysI
namespace Go.Proofs.YtljekapbcphdaabDoor
open Go.RowKit

end Go.Proofs.YtljekapbcphdaabDoor
