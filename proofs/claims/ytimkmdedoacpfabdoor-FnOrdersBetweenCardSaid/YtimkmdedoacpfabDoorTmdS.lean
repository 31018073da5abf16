/- spec: TurnMade. -/
import Derived.Test.YtimkmdedoacpfabDoorTokS
import Derived.Test.YtimkmdedoacpfabDoorBSol
namespace Go.Proofs.YtimkmdedoacpfabDoor
open Go.RowKit

theorem boxes3w {w : World} (P R O : List Value) (T1 T2 T3 : TypeId) : Hid (∃ W : World, W = ((w.alloc (.cells P.toArray T1)).alloc (.cells R.toArray T2)).alloc (.cells O.toArray T3) ∧ W.heap.size = w.heap.size + 1 + 1 + 1 ∧
    Below w.heap.size w W ∧ Box W w.heap.size P ∧ Box W (w.heap.size + 1) R ∧ Box W (w.heap.size + 1 + 1) O) := by
  obtain ⟨h1, h2, h3, h4⟩ := boxes3 (w := w) (P := P) (R := R) (O := O) (T1 := T1) (T2 := T2) (T3 := T3) (Below.refl _ _)
  exact Lib.hid ⟨_, rfl, by simp, h4, h1, h2, h3⟩
theorem below_set4 {w w1 : World} {N : Nat} {x y z t : Value} (h : Below w.heap.size w w1) (hN : w.heap.size ≤ N) : Below w.heap.size w ((((w1.setCell ⟨N, 0, none⟩ x).setCell ⟨N, 1, none⟩ y).setCell ⟨N, 2, none⟩ z).setCell ⟨N, 3, none⟩ t) := (((h.setCell hN _).setCell hN _).setCell hN _).setCell hN _
theorem own_set4 {w1 : World} {N B B' : Nat} {v x y z t : Value} {xs : List Int} (h : Own w1 B v xs) (n1 : N < B) (hB : B' ≤ B) : Own ((((w1.setCell ⟨N, 0, none⟩ x).setCell ⟨N, 1, none⟩ y).setCell ⟨N, 2, none⟩ z).setCell ⟨N, 3, none⟩ t) B' v xs := by
  have hh : ∀ (w : World) (j : Nat) (y : Value), Own w B v xs → Own (w.setCell ⟨N, j, none⟩ y) B v xs := fun w j y h => own_heap h fun b hb => Below.heap_setCell _ _ _ _ (by have := (h.lt b hb).1; show b ≠ N; omega)
  exact own_mono (hh _ _ _ (hh _ _ _ (hh _ _ _ (hh _ _ _ h)))) hB
def TrnPost (w : World) (sp : Int) (S : List Int) (ask : Int) (tl : List Int) (b : Bool) (e : Ending) (w' : World) : Prop :=
  ∃ v u, e = .returned (.tuple #[.agg #[.int .i64 sp, v, .int .i64 ask, u], .bool b]) ∧ Own w' w.heap.size v S ∧ Own w' w.heap.size u tl ∧ (∀ k, v.ownBlock = some k → u.ownBlock = some k → False) ∧ Below w.heap.size w w'
def MdPost (p : Int) (g : List Int) (q : Int) (h : List Int) (ask : Int) (tell : List Int) (w : World) (e : Ending) (w' : World) : Prop :=
  if mdT p g q h ask tell then TrnPost w p (mov tell (frm ask g h)) ask tell true e w' else TrnPost w 0 [] 0 [] false e w'

end Go.Proofs.YtimkmdedoacpfabDoor
