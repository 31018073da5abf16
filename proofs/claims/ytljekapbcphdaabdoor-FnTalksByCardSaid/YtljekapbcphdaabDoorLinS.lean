/- spec.LinesUp. -/
import Derived.Test.YtljekapbcphdaabDoorLinI
import Derived.Test.YtljekapbcphdaabDoorAtS
import Derived.Deep.Cut
namespace Go.Proofs.YtljekapbcphdaabDoor
open Go.RowKit

theorem own_one (w : World) (y : Int) : Own (w.alloc (.cells #[.int .i64 y] 3)) w.heap.size (.slice (some ⟨w.heap.size, 0, none⟩) 1 1) [y] :=
  ⟨rfl, .inr ⟨w.heap.size, 1, #[.int .i64 y], rfl, Nat.le_refl _, heap_alloc_new w _, Nat.le_refl _, by unfold maxLen; omega, rfl, rfl⟩⟩
theorem nodes_succ (m : Nat) : nodes (m + 1) = nodes m ++ [((m : Int) + 1)] := rfl
theorem frees_succ (ask : Int) (asks : List Int) (m : Nat) : frees ask asks (m + 1) = frees ask asks m ++ [nth asks m] := rfl
/-- How far both lists are, when k questions have been looked at. -/
def upTo (m k : Nat) : Nat := if k ≤ m then k else m
theorem upTo_lt {m k : Nat} (h : k < m) : upTo m (k + 1) = upTo m k + 1 ∧ upTo m k = k := by unfold upTo; rw [if_pos (by omega), if_pos (by omega)]; exact ⟨rfl, rfl⟩
theorem upTo_ge {m k : Nat} (h : ¬ k < m) : upTo m (k + 1) = upTo m k ∧ upTo m k = m := by
  unfold upTo
  rw [if_neg (by omega)]
  by_cases e : k ≤ m
  · rw [if_pos e]; omega
  · rw [if_neg e]; exact ⟨rfl, rfl⟩

end Go.Proofs.YtljekapbcphdaabDoor
