/- No contract of a library function is needed here. -/
import Derived.Test.YtiinifcepcaonaaDoorProg
namespace Go.Proofs
end Go.Proofs
