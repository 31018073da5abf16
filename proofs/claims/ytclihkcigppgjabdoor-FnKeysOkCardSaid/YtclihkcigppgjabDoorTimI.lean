/- impl: saysOk, timesMakes. -/
import Derived.Test.YtclihkcigppgjabDoorSolI
import Derived.Test.YtclihkcigppgjabDoorRegionI
namespace Go.Proofs.YtclihkcigppgjabDoor
open Go.RowKit

def saysB (g : Int) (rows : List (List Int)) (makes says : List Int) : Bool := clB g rows makes && (decide (says.length = rows.length) && allEl g says)

end Go.Proofs.YtclihkcigppgjabDoor
