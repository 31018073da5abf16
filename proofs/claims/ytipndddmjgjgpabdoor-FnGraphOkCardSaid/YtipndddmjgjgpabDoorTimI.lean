/- impl: saysOk, timesMakes. -/
import Derived.Test.YtipndddmjgjgpabDoorSolI
import Derived.Test.YtipndddmjgjgpabDoorBReg
namespace Go.Proofs.YtipndddmjgjgpabDoor
open Go.RowKit

def saysB (g : Int) (rows : List (List Int)) (makes says : List Int) : Bool := clB g rows makes && (decide (says.length = rows.length) && allEl g says)

end Go.Proofs.YtipndddmjgjgpabDoor
