/- impl.WordsOk. -/
import Derived.Test.YtipndddmjgjgpabDoorTimI
namespace Go.Proofs.YtipndddmjgjgpabDoor
open Go.RowKit

/-- A world behind W: the blocks below B are as they were. -/
def InW (W : World) (B : Nat) (w' : World) : Prop := Below B W w' ∧ B ≤ w'.heap.size
theorem InW.on {W w1 w2 : World} {B : Nat} (h : InW W B w1) (hb : Below w1.heap.size w1 w2) : InW W B w2 := ⟨h.1.trans (hb.mono h.2), Nat.le_trans h.2 hb.size⟩
theorem InW.start {W w1 : World} {B : Nat} (hB : B ≤ W.heap.size) (hb : Below W.heap.size W w1) : InW W B w1 := ⟨hb.mono hB, Nat.le_trans hB hb.size⟩
theorem InW.box {W w' : World} {B N : Nat} {cs : List Value} (h : InW W B w') (hb : Box W N cs) (hN : N < B) : Box w' N cs := hb.low h.1 hN
theorem InW.grown {W w1 w2 : World} {B : Nat} {r : Option Nat} (h : InW W B w1) (hg : w1.grownBy w2 r) (hr : ∀ k, r = some k → B ≤ k) : InW W B w2 := ⟨h.1.grown hg h.2 hr, Nat.le_trans h.2 hg.size⟩
/-- Two boxes at a function's head. -/
theorem head2 (w : World) (P R : List Value) (T1 T2 : TypeId) : ∀ w', InW ((w.alloc (.cells P.toArray T1)).alloc (.cells R.toArray T2)) (w.heap.size + 2) w' → Box w' w.heap.size P ∧ Box w' (w.heap.size + 1) R ∧ Below w.heap.size w w' := by
  intro w' h
  obtain ⟨b1, b2, b3⟩ := boxes2 (Below.refl ((w.alloc (.cells P.toArray T1)).alloc (.cells R.toArray T2)).heap.size ((w.alloc (.cells P.toArray T1)).alloc (.cells R.toArray T2)))
  exact ⟨h.box b1 (by omega), h.box b2 (by omega), b3.trans (h.1.mono (by omega))⟩
/-- Lists of the call's own, one after the other. -/
def K2 (W : World) (B : Nat) (xs ys : List Int) : Option (Value × Option Value) → World → Prop
  | none, w' => InW W B w'
  | some (v, none), w' => InW W B w' ∧ Own w' B v xs
  | some (v, some u), w' => InW W B w' ∧ Own w' B v xs ∧ Own w' B u ys
theorem K2.inw {W : World} {B : Nat} {xs ys : List Int} {z : Option (Value × Option Value)} {w' : World} (h : K2 W B xs ys z w') : InW W B w' := by
  match z, h with
  | none, h => exact h
  | some (_, none), h => exact h.1
  | some (_, some _), h => exact h.1
theorem K2.on {W : World} {B : Nat} {xs ys : List Int} {z : Option (Value × Option Value)} {w1 w2 : World} (h : K2 W B xs ys z w1) (hb : Below w1.heap.size w1 w2) : K2 W B xs ys z w2 := by
  match z, h with
  | none, h => exact InW.on h hb
  | some (_, none), h => exact ⟨h.1.on hb, own_below h.2 hb⟩
  | some (_, some _), h => exact ⟨h.1.on hb, own_below h.2.1 hb, own_below h.2.2 hb⟩

theorem wok_parts (g : Int) (rows : List (List Int)) (makes says : List Int) (q : Int) (tells : List Int) : wokB g rows makes says q tells = (saysB g rows makes says && (lotB g rows makes tells && (exB g q && sameB (mkAll g rows tells) (timesAll g says makes q)))) := by
  unfold wokB saysB; simp only [Bool.and_assoc]
theorem saysB_true {g : Int} {rows : List (List Int)} {makes says : List Int} : saysB g rows makes says = true ↔ Cl g rows makes ∧ says.length = rows.length ∧ allEl g says = true := by
  unfold saysB; simp only [Bool.and_eq_true, clB_true, decide_eq_true_eq]

end Go.Proofs.YtipndddmjgjgpabDoor
