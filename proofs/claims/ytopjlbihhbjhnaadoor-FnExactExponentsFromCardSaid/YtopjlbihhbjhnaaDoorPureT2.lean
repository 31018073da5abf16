/- How many answers are right: one. -/
import Derived.Test.YtopjlbihhbjhnaaDoorPureT
namespace Go.Proofs.YtopjlbihhbjhnaaDoor

/-- How many of the first k answers are right. -/
def cntT (g key say ask : Int) : Nat → Int
  | 0 => 0
  | k + 1 => if tokB g key say ask (k : Int) then cntT g key say ask k + 1 else cntT g key say ask k
def manyOf (g key say ask : Int) : Int := if elB g key && (elB g say && exB g ask) then 1 else -1
theorem many_yes {g key say ask : Int} (h1 : elB g key = true) (h2 : elB g say = true) (h3 : exB g ask = true) : manyOf g key say ask = 1 := by simp [manyOf, h1, h2, h3]
theorem many_no {g key say ask : Int} (h : ¬ (elB g key = true ∧ elB g say = true ∧ exB g ask = true)) : manyOf g key say ask = -1 := by
  unfold manyOf
  cases h1 : elB g key
  · rfl
  · cases h2 : elB g say
    · rfl
    · cases h3 : exB g ask
      · rfl
      · exact absurd ⟨h1, h2, h3⟩ h
theorem cntT_yes {g key say ask : Int} {k : Nat} (h : tokB g key say ask (k : Int) = true) : cntT g key say ask (k + 1) = cntT g key say ask k + 1 := by simp [cntT, h]
theorem cntT_no {g key say ask : Int} {k : Nat} (h : tokB g key say ask (k : Int) = false) : cntT g key say ask (k + 1) = cntT g key say ask k := by simp [cntT, h]
theorem cntT_bd (g key say ask : Int) (k : Nat) : 0 ≤ cntT g key say ask k ∧ cntT g key say ask k ≤ k := by
  induction k with
  | zero => exact ⟨Int.le_refl _, Int.le_refl _⟩
  | succ k ih =>
    obtain ⟨i1, i2⟩ := ih
    cases h : tokB g key say ask (k : Int)
    · rw [cntT_no h]; omega
    · rw [cntT_yes h]; omega
theorem cntT_at {g key say ask : Int} (h1 : elB g key = true) (h2 : elB g say = true) (h3 : exB g ask = true) (k : Nat) (hk : (k : Int) ≤ ord g) :
    cntT g key say ask k = if tellOf g (glog g (bas g) key) (glog g (bas g) say) ask < k then 1 else 0 := by
  obtain ⟨h0, h4⟩ := elB_group h1
  obtain ⟨_, t0, t1⟩ := exB_true.1 (tell_ex h0 h4 (glog g (bas g) key) (glog g (bas g) say) ask)
  induction k with
  | zero => rw [if_neg (by omega)]; rfl
  | succ k ih =>
    have ih := ih (by omega)
    have hx : exB g (k : Int) = true := exB_true.2 ⟨⟨h0, h4⟩, by omega, by omega⟩
    have ht := tok_tell h1 h2 h3 hx
    cases h : tokB g key say ask (k : Int)
    · have hne : (k : Int) ≠ tellOf g (glog g (bas g) key) (glog g (bas g) say) ask := fun e => by rw [ht.2 e] at h; cases h
      rw [cntT_no h, ih]
      by_cases hl : tellOf g (glog g (bas g) key) (glog g (bas g) say) ask < k
      · rw [if_pos hl, if_pos (by omega)]
      · rw [if_neg hl, if_neg (by omega)]
    · have he := ht.1 h
      rw [cntT_yes h, ih, if_neg (by omega), if_pos (by omega)]; rfl
theorem cntT_all {g key say ask : Int} (h1 : elB g key = true) (h2 : elB g say = true) (h3 : exB g ask = true) {q : Nat} (hq : ord g = q) : cntT g key say ask q = 1 := by
  obtain ⟨h0, h4⟩ := elB_group h1
  obtain ⟨_, t0, t1⟩ := exB_true.1 (tell_ex h0 h4 (glog g (bas g) key) (glog g (bas g) say) ask)
  rw [cntT_at h1 h2 h3 q (by omega), if_pos (by omega)]
end Go.Proofs.YtopjlbihhbjhnaaDoor
