/- spec.WordsMade. -/
import Derived.Test.YtclihkcigppgjaaDoorMadI
import Derived.Test.YtclihkcigppgjaaDoorWokS
namespace Go.Proofs.YtclihkcigppgjaaDoor
open Go.RowKit

end Go.Proofs.YtclihkcigppgjaaDoor
