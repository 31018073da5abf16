/- Plain mathematics of chapter 8's FoundOut: a fraction put to a power, in lowest terms: no program. -/
import Derived.Test.YtimkmdedoacpfabDoorColP
import Derived.Test.YtimkmdedoacpfabDoorBGr
namespace Go.Proofs.YtimkmdedoacpfabDoor

theorem low_self {m : Nat} (h : 0 < m) : low m m = (1, 1) := by
  unfold low; rw [Nat.gcd_self, Nat.div_self h]
theorem low_few (u d : Nat) : (low u d).1 ≤ u ∧ (low u d).2 ≤ d := ⟨Nat.div_le_self _ _, Nat.div_le_self _ _⟩
/-- How often who cheats as well as can be is not found out. -/
def fouA (p : Int) (es : List Int) : Nat × Nat := low (es.length - (bst p es).2.toNat) es.length
def fouB (p : Int) (es : List Int) (t : Int) : Bool := gkB p es && (decide (0 < es.length) && (decide (1 ≤ t) && decide (t ≤ 5)))
def fou (p : Int) (es : List Int) (t : Int) : Int × Int := if fouB p es t then ((((fouA p es).1 ^ t.toNat : Nat) : Int), (((fouA p es).2 ^ t.toNat : Nat) : Int)) else (-1, -1)
structure Fou (p : Int) (es : List Int) (t : Int) : Prop where
  gk : Gk p es
  e0 : 0 < es.length
  t1 : 1 ≤ t
  t5 : t ≤ 5
theorem fouB_true {p : Int} {es : List Int} {t : Int} : fouB p es t = true ↔ Fou p es t := by
  unfold fouB
  simp only [Bool.and_eq_true, decide_eq_true_eq, gkB_true]
  exact ⟨fun ⟨a, b, c, d⟩ => ⟨a, b, c, d⟩, fun h => ⟨h.gk, h.e0, h.t1, h.t5⟩⟩
theorem fou_yes {p : Int} {es : List Int} {t : Int} (h : fouB p es t = true) : fou p es t = ((((fouA p es).1 ^ t.toNat : Nat) : Int), (((fouA p es).2 ^ t.toNat : Nat) : Int)) := by simp [fou, h]
theorem fou_no {p : Int} {es : List Int} {t : Int} (h : fouB p es t = false) : fou p es t = (-1, -1) := by simp [fou, h]
theorem pow_few8 {a t : Nat} (ha : a ≤ 50) (ht : t ≤ 5) : a ^ t ≤ 312500000 := by
  have h1 : a ^ t ≤ 50 ^ t := Nat.pow_le_pow_left ha t
  have h2 : 50 ^ t ≤ 50 ^ 5 := Nat.pow_le_pow_right (by omega) ht
  have h3 : (50 : Nat) ^ 5 = 312500000 := by decide
  omega
structure FouF (p : Int) (es : List Int) (t : Nat) : Prop where
  a50 : (fouA p es).1 ≤ 50
  b50 : (fouA p es).2 ≤ 50
  b0 : 0 < (fouA p es).2
  one : 0 < (cols p es).length → (fouA p es).1 ^ t = 1 ∧ (fouA p es).2 ^ t = 1
  less : (cols p es).length = 0 → (fouA p es).1 ^ t * es.length ^ t ≤ (es.length - 1) ^ t * (fouA p es).2 ^ t
theorem fou_facts {p : Int} {es : List Int} (h : Gk p es) (h0 : 0 < es.length) (t : Nat) : FouF p es t := by
  have hf := bst_facts h
  have hge := hf.ge
  have hth := hf.third
  have hfew := h.few
  obtain ⟨n, hn⟩ : ∃ n, (bst p es).2.toNat = n := ⟨_, rfl⟩
  have hl := low_few (es.length - n) es.length
  have hp := low_pos (u := es.length - n) h0
  have hs := low_same (es.length - n) es.length
  have hA : fouA p es = low (es.length - n) es.length := by unfold fouA; rw [hn]
  refine ⟨by rw [hA]; omega, by rw [hA]; omega, by rw [hA]; exact hp, fun hc => ?_, fun hc => ?_⟩
  · have : n = 0 := by have := hf.zero.2 hc; omega
    rw [hA, this, Nat.sub_zero, low_self h0]
    exact ⟨Nat.one_pow _, Nat.one_pow _⟩
  · have : n ≠ 0 := fun e => by have := hf.zero.1 (by omega); omega
    rw [hA, ← Nat.mul_pow, hs, Nat.mul_pow]
    exact Nat.mul_le_mul_right _ (Nat.pow_le_pow_left (by omega) t)
end Go.Proofs.YtimkmdedoacpfabDoor
