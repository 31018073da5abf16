/- Plain mathematics of chapter 9: tables of graphs. -/
import Derived.Test.YtlcegpmhlnilfaaBGr
namespace Go.Proofs.Ytlcegpmhlnilfaa

def fouB (l : List Int) : Bool := decide (l.length = 4) && bitB l
theorem fouB_true {l : List Int} : fouB l = true ↔ l.length = 4 ∧ bitB l = true := by unfold fouB; simp
theorem fouB_false {l : List Int} (h : ¬ (l.length = 4 ∧ bitB l = true)) : fouB l = false := by
  cases hb : fouB l
  · rfl
  · exact absurd (fouB_true.1 hb) h
def knd (es : List Int) : Nat := es.length % 2 + (if hasB es 1 then 0 else 2)
theorem knd_lt (es : List Int) : knd es < 4 := by unfold knd; split <;> omega
def gasB (l : List Int) (p : Int) (es : List Int) : Int := if fouB l && gkB p es then nth l (knd es) else -1
theorem gas_no1 {l es : List Int} {p : Int} (h : fouB l = false) : gasB l p es = -1 := by unfold gasB; rw [h]; rfl
theorem gas_no2 {l es : List Int} {p : Int} (h : gkB p es = false) : gasB l p es = -1 := by unfold gasB; rw [h, Bool.and_false]; rfl
theorem gas_yes {l es : List Int} {p : Int} (h : fouB l = true) (k : gkB p es = true) : gasB l p es = nth l (knd es) := by unfold gasB; rw [h, k]; rfl
theorem fou_bit {l : List Int} (h : fouB l = true) {j : Nat} (hj : j < 4) : nth l j = 0 ∨ nth l j = 1 := by
  obtain ⟨h1, h2⟩ := fouB_true.1 h
  exact bitB_true.1 h2 j (by omega)
theorem gas_bit {l es : List Int} {p : Int} (h : fouB l = true) (k : gkB p es = true) : gasB l p es = 0 ∨ gasB l p es = 1 := by
  rw [gas_yes h k]; exact fou_bit h (knd_lt es)
/-- The least edge is that between the first two points. -/
theorem one_first {p : Int} {es : List Int} (h : Gk p es) : hasB es 1 = (decide (0 < es.length) && decide (nth es 0 = 1)) := by
  by_cases h0 : 0 < es.length
  · by_cases h1 : nth es 0 = 1
    · rw [has_yes h0 h1]; simp [h0, h1]
    · have : hasB es 1 = false := has_no fun j hj e => by
        by_cases hz : j = 0
        · subst hz; exact h1 e
        · have := asc_nth.1 h.asc 0 j (by omega) hj
          have := (h.ed 0 h0).pos
          omega
      rw [this]; simp [h1]
  · have : hasB es 1 = false := has_no fun j hj => by omega
    rw [this]; simp [h0]
end Go.Proofs.Ytlcegpmhlnilfaa
