/- Draws: DrawOrderOk, DrawOrderBack, DrawOrderThen, DrawGraphOk, DrawGraphMoved. -/
import Derived.Test.YtlcegpmhlnilfabDoorDrH
namespace Go.Proofs.YtlcegpmhlnilfabDoor
open Go.RowKit

/-- A list as the laws have it. -/
structure Li (w : World) (v : Value) (xs : List Int) : Prop where
  ints : Ints w v xs
  cap : capB v
  few : xs.length ≤ 50
  sml : Sml xs
theorem Li.below {w w' : World} {v : Value} {xs : List Int} (h : Li w v xs) (hb : Below w.heap.size w w') : Li w' v xs := ⟨h.ints.below hb, h.cap, h.few, h.sml⟩
theorem Li.num {w : World} {v : Value} {xs : List Int} (h : Li w v xs) : ∀ j, j < xs.length → intIn (nth xs j) := fun j hj => by have := h.sml j hj; exact ⟨by omega, by omega⟩
theorem own_li {w : World} {B : Nat} {v : Value} {xs : List Int} (h : Own w B v xs) (hl : xs.length ≤ 50) (hs : Sml xs) : Li w v xs :=
  ⟨Ints.of_own h (by unfold maxLen; omega), h.capped, hl, hs⟩
theorem Dx.fin {w w1 w' : World} {Bs : List (Nat × List Value)} {L : List (Value × List Int)} {k : Nat} (D : Dx w1 w.heap.size Bs L k w') (hb : Below w.heap.size w w1) (hs : w.heap.size ≤ w1.heap.size) : Below w.heap.size w w' :=
  hb.grown D.gr hs (fun q e => by cases e; exact Nat.le_refl _)
theorem small_sml {xs : List Int} (h : ∀ j, j < xs.length → 0 ≤ nth xs j ∧ nth xs j ≤ 10) : Sml xs := fun j hj => by have := h j hj; omega

theorem code_more3 {w : World} {s : Value} (h : CodeIn w s) (o : Obj) : CodeIn (w.alloc o) s := by
  rcases h with ⟨a, cap, rfl⟩ | ⟨b, off, len, cap, z, rfl, h1, h2, h3, h4, h5, h6⟩
  · exact .inl ⟨a, cap, rfl⟩
  · exact .inr ⟨b, off, len, cap, z, rfl, h1, h2, h3, by simp; omega, fun j hj => ((below_grow w o).cell (p := ⟨b, off + j, none⟩) h4).trans (h5 j hj), h6⟩
theorem box_drawn3 {w w' : World} {R N : Nat} {P : List Value} (h : Box w N P) (hg : w.grownBy w' (some R)) (hN : N ≠ R) : Box w' N P := by
  obtain ⟨T, hT⟩ := h
  exact ⟨T, by rw [hg.block N (Array.getElem?_eq_some_iff.1 hT).1 fun e => hN (Option.some.inj e)]; exact hT⟩
/-- A list behind a box: the box written to leaves it. -/
theorem own_box2 {w : World} {N B : Nat} {v : Value} {xs : List Int} (hN : N < B) (h : Own w B v xs) (a b : Value) : Own ((w.setCell ⟨N, 0, none⟩ a).setCell ⟨N, 1, none⟩ b) B v xs :=
  own_heap h fun q hq => by
    have := (h.lt q hq).1
    rw [Below.heap_setCell _ _ _ _ (show q ≠ N by omega), Below.heap_setCell _ _ _ _ (show q ≠ N by omega)]

def OoPost (w : World) (e : Ending) (w' : World) : Prop := ∃ v xs n, e = .returned (.tuple #[v, .int .i64 n]) ∧ Li w' v xs ∧ 1 ≤ n ∧ n ≤ 6 ∧ Below w.heap.size w w'
def ObPost (w : World) (e : Ending) (w' : World) : Prop := ∃ v xs, e = .returned v ∧ Li w' v xs ∧ Below w.heap.size w w'
def OtPost (w : World) (e : Ending) (w' : World) : Prop := ∃ v xs u ys, e = .returned (.tuple #[v, u]) ∧ Li w' v xs ∧ Li w' u ys ∧ Below w.heap.size w w'
def GdPost (w : World) (e : Ending) (w' : World) : Prop := ∃ p v es, e = .returned (.agg #[.int .i64 p, v]) ∧ 0 ≤ p ∧ p ≤ 5 ∧ Li w' v es ∧ Below w.heap.size w w'
def GmPost (w : World) (e : Ending) (w' : World) : Prop := ∃ p v es u ys, e = .returned (.tuple #[.agg #[.int .i64 p, v], u]) ∧ 0 ≤ p ∧ p ≤ 5 ∧ Li w' v es ∧ Li w' u ys ∧ Below w.heap.size w w'

end Go.Proofs.YtlcegpmhlnilfabDoor
