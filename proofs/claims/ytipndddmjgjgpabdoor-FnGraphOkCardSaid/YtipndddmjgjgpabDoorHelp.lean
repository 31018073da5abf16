/- laws.szIntS, szIntSS, szClaim, szWords; eqIntSS, eqClaim, eqWords at equal ones. -/
import Derived.Test.YtipndddmjgjgpabDoorBRd
import Derived.Test.YtipndddmjgjgpabDoorBWalk
namespace Go.Proofs.YtipndddmjgjgpabDoor
open Go.RowKit

/-- How many numbers the first k lists have. -/
def cnt (xss : List (List Int)) : Nat → Nat
  | 0 => 0
  | k + 1 => cnt xss k + (row xss k).length
theorem cnt_succ (xss : List (List Int)) (k : Nat) : cnt xss (k + 1) = cnt xss k + (row xss k).length := rfl
theorem cnt_mono (xss : List (List Int)) : ∀ {k n : Nat}, k ≤ n → cnt xss k ≤ cnt xss n
  | k, 0, h => by obtain rfl : k = 0 := by omega
                  exact Nat.le_refl _
  | k, n + 1, h => by
    by_cases e : k = n + 1
    · rw [e]; exact Nat.le_refl _
    · have := cnt_mono xss (show k ≤ n by omega)
      rw [cnt_succ]; omega
def szI (n : Nat) (left : Int) : Int := if left - n < 0 then -1 else left - n
theorem szI_cases (n : Nat) (left : Int) : (szI n left = -1 ∧ left < n) ∨ (szI n left = left - n ∧ (n : Int) ≤ left) := by
  unfold szI
  by_cases h : left - n < 0
  · rw [if_pos h]; exact .inl ⟨rfl, by omega⟩
  · rw [if_neg h]; exact .inr ⟨rfl, by omega⟩

theorem IntSSA.drewN {w : World} {a : Option Addr} {xss : List (List Int)} (h : IntSSA w a xss) (m : Nat) : IntSSA (w.drewN m) a xss := ⟨h.max, h.get⟩
theorem Ints.drewN {w : World} {v : Value} {xs : List Int} (h : Ints w v xs) (m : Nat) : Ints (w.drewN m) v xs := h
end Go.Proofs.YtipndddmjgjgpabDoor
