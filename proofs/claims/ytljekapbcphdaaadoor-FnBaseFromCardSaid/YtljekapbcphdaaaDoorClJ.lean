/- impl: lotOk, slices.Equal, RowsMake, Solves. -/
import Derived.Test.YtljekapbcphdaaaDoorClI
import Derived.Test.YtljekapbcphdaaaDoorTalkS2
namespace Go.Proofs.YtljekapbcphdaaaDoor
open Go.RowKit

theorem Cw.row0 {w : World} {rv mv : Value} {g : Int} {rows : List (List Int)} {makes : List Int} (h : Cw w rv mv rows makes) (hc : Cl g rows makes) :
    ∃ G c a0 c0, rv = .slice (some ⟨G, 0, none⟩) rows.length c ∧ ∀ w', Below w.heap.size w w' → w'.cell? ⟨G, 0, none⟩ = some (.slice a0 (unk rows) c0) := by
  obtain ⟨a, c, rfl, k1⟩ := h.rows.opened
  obtain ⟨G, u, rfl, hl, hcell, hi⟩ := k1.get 0 hc.r1
  obtain ⟨a0, c0, rfl, _⟩ := hi.opened
  exact ⟨G, c, a0, c0, rfl, fun w' hb => (hb.cell (p := ⟨G, 0, none⟩) hl).trans hcell⟩

end Go.Proofs.YtljekapbcphdaaaDoor
