/- The exact laws of chapter 2 over numbers and talks. -/
import Derived.Test.YtopjlbihhbjhnaaDoorImplT
import Derived.Test.YtopjlbihhbjhnaaDoorTalkM
namespace Go.Proofs.YtopjlbihhbjhnaaDoor
open Go.RowKit

end Go.Proofs.YtopjlbihhbjhnaaDoor
