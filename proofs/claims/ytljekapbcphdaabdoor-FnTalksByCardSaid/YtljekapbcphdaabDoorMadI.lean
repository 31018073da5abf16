/- impl.WordsMade. -/
import Derived.Test.YtljekapbcphdaabDoorRegionJ
import Derived.Test.YtljekapbcphdaabDoorMark
import Derived.Test.YtljekapbcphdaabDoorBPure
namespace Go.Proofs.YtljekapbcphdaabDoor
open Go.RowKit

def wdQ (b : Bool) (q : Int) : Int := if b then q else 0
def wdL (b : Bool) (xs : List Int) : List Int := if b then xs else []
theorem OwnW.nil (w : World) (lo hi : Nat) : OwnW w lo hi (.slice none 0 0) (.slice none 0 0) [] [] :=
  ⟨World.ownsRow_nil _ _ _ _, World.ownsRow_nil _ _ _ _, fun k hk => by simp [Value.ownBlock] at hk, fun k hk => by simp [Value.ownBlock] at hk, fun k hk => by simp [Value.ownBlock] at hk⟩
/-- A talk stored into the result's box. -/
theorem own_set3 {w : World} {B N : Nat} {v x y z : Value} {xs : List Int} (h : Own w B v xs) (hN : ∀ k, v.ownBlock = some k → k ≠ N) : Own (((w.setCell ⟨N, 0, none⟩ x).setCell ⟨N, 1, none⟩ y).setCell ⟨N, 2, none⟩ z) B v xs :=
  own_heap h fun k hk => by rw [Below.heap_setCell _ _ _ _ (hN k hk), Below.heap_setCell _ _ _ _ (hN k hk), Below.heap_setCell _ _ _ _ (hN k hk)]
theorem set3_size (w : World) (N : Nat) (x y z : Value) : (((w.setCell ⟨N, 0, none⟩ x).setCell ⟨N, 1, none⟩ y).setCell ⟨N, 2, none⟩ z).heap.size = w.heap.size := by simp [World.setCell]
theorem below_set3 {w w1 : World} {N : Nat} {x y z : Value} (h : Below w.heap.size w w1) (hN : w.heap.size ≤ N) : Below w.heap.size w (((w1.setCell ⟨N, 0, none⟩ x).setCell ⟨N, 1, none⟩ y).setCell ⟨N, 2, none⟩ z) := ((h.setCell hN _).setCell hN _).setCell hN _
theorem words_fin {w w1 : World} {N B B' : Nat} {sv tv x y z : Value} {ss ts : List Int} (h1 : Own w1 B sv ss) (h2 : Own w1 B' tv ts) (n1 : N < B) (n2 : N < B') (a : ∀ k, sv.ownBlock = some k → tv.ownBlock = some k → False) (hw : w.heap.size ≤ N) :
    OwnW (((w1.setCell ⟨N, 0, none⟩ x).setCell ⟨N, 1, none⟩ y).setCell ⟨N, 2, none⟩ z) w.heap.size (((w1.setCell ⟨N, 0, none⟩ x).setCell ⟨N, 1, none⟩ y).setCell ⟨N, 2, none⟩ z).heap.size sv tv ss ts := by
  refine ⟨own_mono (own_set3 h1 fun k hk => by have := (h1.lt k hk).1; omega) (by omega), own_mono (own_set3 h2 fun k hk => by have := (h2.lt k hk).1; omega) (by omega), a, fun k hk => ?_, fun k hk => ?_⟩
  · rw [set3_size]; exact (h1.lt k hk).2
  · rw [set3_size]; exact (h2.lt k hk).2

def mdB (g : Int) (rows : List (List Int)) (makes : List Int) (q : Int) (tells : List Int) : Bool := lotB g rows makes tells && exB g q
def ofB (g : Int) (rows : List (List Int)) (makes es further : List Int) (q : Int) : Bool := solvB g rows makes es && (lotB g rows makes further && exB g q)
theorem ofB_parts {g : Int} {rows : List (List Int)} {makes es further : List Int} {q : Int} (h : ofB g rows makes es further q = true) : Lot g rows makes es ∧ Lot g rows makes further ∧ exB g q = true := by
  unfold ofB solvB at h
  simp only [Bool.and_eq_true] at h
  exact ⟨lotB_true.1 h.1.1, lotB_true.1 h.2.1, h.2.2⟩

end Go.Proofs.YtljekapbcphdaabDoor
