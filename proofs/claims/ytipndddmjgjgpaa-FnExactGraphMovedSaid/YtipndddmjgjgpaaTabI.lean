/- impl: entriesOk, TableOk. -/
import Derived.Test.YtipndddmjgjgpaaBRd
import Derived.Test.YtipndddmjgjgpaaPureG
namespace Go.Proofs.Ytipndddmjgjgpaa
open Go.RowKit

theorem bit_yes {xs : List Int} (h : ∀ j, j < xs.length → nth xs j = 0 ∨ nth xs j = 1) : bitB xs = true := bitB_true.2 h
theorem bit_no {xs : List Int} {k : Nat} (hk : k < xs.length) (h : ¬ (nth xs k = 0 ∨ nth xs k = 1)) : bitB xs = false := by
  cases hb : bitB xs
  · rfl
  · exact absurd (bitB_true.1 hb k hk) h

/-- Rows of the same length as the first one, of entries 0 and 1, so far. -/
def TabTo (t : List (List Int)) (k : Nat) : Prop := ∀ j, j < k → (row t j).length = (row t 0).length ∧ bitB (row t j) = true

end Go.Proofs.Ytipndddmjgjgpaa
