/- spec.TalksMany. -/
import Derived.Test.YtiinifcepcaonaaDoorBTalk
import Derived.Test.YtiinifcepcaonaaDoorBPure
namespace Go.Proofs.YtiinifcepcaonaaDoor
open Go.RowKit

theorem ord_of2 {g : Int} (h0 : 0 ≤ g) (h4 : g < 4) : ∃ q : Nat, ord g = q ∧ 3 ≤ q ∧ q ≤ 23 := by
  obtain ⟨o1, o2⟩ := ord_bd h0 h4
  exact ⟨(ord g).toNat, by omega, by omega, by omega⟩

end Go.Proofs.YtiinifcepcaonaaDoor
