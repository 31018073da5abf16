/- impl.AnswersMany's closure, slices.IndexFunc, slices.ContainsFunc over it. -/
import Derived.Test.YtclihkcigppgjaaDoorLotI
import Derived.Test.YtclihkcigppgjaaDoorWokI
namespace Go.Proofs.YtclihkcigppgjaaDoor
open Go.RowKit

def anyTo (h : Nat → Bool) : Nat → Bool
  | 0 => false
  | k + 1 => anyTo h k || h k
theorem anyTo_at {h : Nat → Bool} : ∀ {n k : Nat}, k < n → h k = true → anyTo h n = true
  | 0, k, hk, _ => by omega
  | n + 1, k, hk, e => by
    unfold anyTo
    by_cases c : k < n
    · rw [anyTo_at c e]; rfl
    · obtain rfl : k = n := by omega
      rw [e]; simp
theorem anyTo_step {h : Nat → Bool} {k : Nat} (h1 : anyTo h k = false) (h2 : h k = false) : anyTo h (k + 1) = false := by unfold anyTo; rw [h1, h2]; rfl
theorem anyTo_congr {h h' : Nat → Bool} : ∀ {n : Nat}, (∀ k, k < n → h k = h' k) → anyTo h n = anyTo h' n
  | 0, _ => rfl
  | n + 1, e => by unfold anyTo; rw [anyTo_congr fun k hk => e k (by omega), e n (by omega)]

end Go.Proofs.YtclihkcigppgjaaDoor
