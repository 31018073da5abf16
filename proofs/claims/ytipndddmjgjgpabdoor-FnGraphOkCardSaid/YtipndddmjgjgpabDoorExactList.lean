/- markIntS, heldIntS, and the exact law of ElementsOf, walked. -/
import Derived.Test.YtipndddmjgjgpabDoorBWalk
namespace Go.Proofs.YtipndddmjgjgpabDoor
open Go.RowKit

theorem grown_trans' {w w1 w2 : World} {g : Nat} (h : w.grownBy w1 (some g)) (k : w1.grownBy w2 (some g)) : w.grownBy w2 (some g) :=
  ⟨k.os.trans h.os, k.tape.trans h.tape, k.output.trans h.output, Nat.le_trans h.size k.size, fun i hi hr => (k.block i (Nat.lt_of_lt_of_le hi h.size) hr).trans (h.block i hi hr)⟩

def markTo (xs : List Int) (m : Int) : Nat → List Int
  | 0 => xs
  | k + 1 => (markTo xs m k).set k (m + k)
theorem markTo_len (xs : List Int) (m : Int) : ∀ k, (markTo xs m k).length = xs.length
  | 0 => rfl
  | k + 1 => by unfold markTo; rw [List.length_set]; exact markTo_len xs m k
theorem markTo_nth (xs : List Int) (m : Int) : ∀ k, k ≤ xs.length → ∀ j, j < k → nth (markTo xs m k) j = m + j
  | 0, _, j, hj => by omega
  | k + 1, hk, j, hj => by
    have hl : k < (markTo xs m k).length := by rw [markTo_len]; omega
    unfold markTo nth
    rw [List.getD_eq_getElem?_getD]
    by_cases e : k = j
    · subst e; rw [List.getElem?_set_self hl]; rfl
    · rw [List.getElem?_set_ne e, ← List.getD_eq_getElem?_getD]
      exact markTo_nth xs m k (by omega) j (by omega)

theorem els_max (g : Int) : (els g).length ≤ maxLen := by have := @els_len g; unfold maxLen; omega
theorem mark_max (g m : Int) (k : Nat) : (markTo (els g) m k).length ≤ maxLen := by rw [markTo_len]; exact els_max g
theorem Own.drew {w : World} {B : Nat} {v : Value} {xs : List Int} (h : Own w B v xs) (n : Nat) : Own (w.drewN n) B v xs := h
theorem own_apart {w w' : World} {B B' : Nat} {v u : Value} {xs : List Int} (h : Own w B v xs) (hlt : ∀ k, v.ownBlock = some k → k < B') (hu : ∀ k, u.ownBlock = some k → B' ≤ k) (hg : w.grownBy w' u.ownBlock) : Own w' B v xs :=
  h.kept hg (by
    cases hv : v.ownBlock with
    | none => exact .inl rfl
    | some k => exact .inr (fun e => by have := hlt k hv; have := hu k e.symm; omega))

end Go.Proofs.YtipndddmjgjgpabDoor
