/- impl.RowsMake. -/
import Derived.Test.YtljekapbcphdaaaDoorClJ
namespace Go.Proofs.YtljekapbcphdaaaDoor
open Go.RowKit

theorem Lot.row_len {g : Int} {rows : List (List Int)} {makes es : List Int} (h : Lot g rows makes es) {k : Nat} (hk : k < rows.length) : (row rows k).length = es.length := by rw [(h.cl.row k hk).1, h.len]

end Go.Proofs.YtljekapbcphdaaaDoor
