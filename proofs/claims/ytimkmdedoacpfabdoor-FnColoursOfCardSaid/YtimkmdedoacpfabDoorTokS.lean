/- spec: TurnOk. -/
import Derived.Test.YtimkmdedoacpfabDoorBtwS
import Derived.Test.YtimkmdedoacpfabDoorBReg
import Derived.Test.YtimkmdedoacpfabDoorBGr
namespace Go.Proofs.YtimkmdedoacpfabDoor
open Go.RowKit

theorem boxes4 {w : World} (P R O Q : List Value) (T1 T2 T3 T4 : TypeId) : Hid (∃ W : World, W = (((w.alloc (.cells P.toArray T1)).alloc (.cells R.toArray T2)).alloc (.cells O.toArray T3)).alloc (.cells Q.toArray T4) ∧
    Below w.heap.size w W ∧ Box W w.heap.size P ∧ Box W (w.heap.size + 1) R ∧ Box W (w.heap.size + 1 + 1) O ∧ Box W (w.heap.size + 1 + 1 + 1) Q) := by
  have h1 := Box.made w P T1
  have h2 := Box.made (w.alloc (.cells P.toArray T1)) R T2
  have h3 := Box.made ((w.alloc (.cells P.toArray T1)).alloc (.cells R.toArray T2)) O T3
  have h4 := Box.made (((w.alloc (.cells P.toArray T1)).alloc (.cells R.toArray T2)).alloc (.cells O.toArray T3)) Q T4
  rw [show (w.alloc (.cells P.toArray T1)).heap.size = w.heap.size + 1 by simp] at h2
  rw [show ((w.alloc (.cells P.toArray T1)).alloc (.cells R.toArray T2)).heap.size = w.heap.size + 1 + 1 by simp] at h3
  rw [show (((w.alloc (.cells P.toArray T1)).alloc (.cells R.toArray T2)).alloc (.cells O.toArray T3)).heap.size = w.heap.size + 1 + 1 + 1 by simp] at h4
  exact Lib.hid ⟨_, rfl, (below_grow w _).trans (((below_grow _ _).mono (by simp)).trans (((below_grow _ _).mono (by simp; omega)).trans ((below_grow _ _).mono (by simp; omega)))), ((h1.alloc _).alloc _).alloc _, (h2.alloc _).alloc _, h3.alloc _, h4⟩
/-- A world behind W, and (when it is made) a list of numbers in it. -/
def My (W : World) (M : List Int) (z : Option Value) (w' : World) : Prop := Below W.heap.size W w' ∧ ∀ v, z = some v → Ints w' v M
theorem few_of {w : World} {v : Value} {xs : List Int} (h : Ints w v xs) : xs.length ≤ maxLen := by
  rcases h with ⟨_, rfl⟩ | ⟨_, _, _, hl, _⟩
  · simp
  · exact hl
theorem tkT_no {p q sp ask : Int} {g h se tell : List Int} (k : mdT p g q h ask tell = false) : tkT p g q h sp se ask tell = false := by simp [tkT, k]

end Go.Proofs.YtimkmdedoacpfabDoor
