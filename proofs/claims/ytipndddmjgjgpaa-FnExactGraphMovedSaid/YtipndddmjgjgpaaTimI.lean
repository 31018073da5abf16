/- impl: saysOk, timesMakes. -/
import Derived.Test.YtipndddmjgjgpaaSolI
import Derived.Test.YtipndddmjgjgpaaBReg
namespace Go.Proofs.Ytipndddmjgjgpaa
open Go.RowKit

def saysB (g : Int) (rows : List (List Int)) (makes says : List Int) : Bool := clB g rows makes && (decide (says.length = rows.length) && allEl g says)

end Go.Proofs.Ytipndddmjgjgpaa
