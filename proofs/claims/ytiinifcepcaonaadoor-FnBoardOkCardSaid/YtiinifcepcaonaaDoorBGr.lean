/- PureG, PureH, TabI, TabS, in one text. -/
import Derived.Test.YtiinifcepcaonaaDoorBPure
import Derived.Test.YtiinifcepcaonaaDoorBRd
import Derived.Deep.Quiet
import Derived.Deep.RegionHeld3
import Derived.Laws.ResultCell
import Derived.Outline
import Derived.BigQuiet
/- Plain mathematics of chapter 6: tables of what is taken, counted: no program. -/
namespace Go.Proofs.YtiinifcepcaonaaDoor

/-- How many of the first k entries of a row are 1. -/
def oneTo (r : List Int) : Nat → Nat
  | 0 => 0
  | k + 1 => oneTo r k + if nth r k = 1 then 1 else 0
def ones (r : List Int) : Nat := oneTo r r.length
theorem oneTo_succ (r : List Int) (k : Nat) : oneTo r (k + 1) = oneTo r k + if nth r k = 1 then 1 else 0 := rfl
theorem oneTo_le (r : List Int) : ∀ k, oneTo r k ≤ k
  | 0 => Nat.le_refl _
  | k + 1 => by rw [oneTo_succ]; have := oneTo_le r k; split <;> omega
theorem ones_le (r : List Int) : ones r ≤ r.length := oneTo_le r _
theorem oneTo_mono (r : List Int) {j : Nat} : ∀ {k : Nat}, j ≤ k → oneTo r j ≤ oneTo r k
  | 0, h => by rw [Nat.le_zero.1 h]; exact Nat.le_refl _
  | k + 1, h => by
    by_cases e : j = k + 1
    · rw [e]; exact Nat.le_refl _
    · rw [oneTo_succ]; have := oneTo_mono r (j := j) (k := k) (by omega); omega
/-- Two entries that are 1 are at least two. -/
theorem ones_two {r : List Int} {i j n : Nat} (hij : i < j) (hj : j < n) (h1 : nth r i = 1) (h2 : nth r j = 1) : 2 ≤ oneTo r n := by
  have a := oneTo_mono r (j := i + 1) (k := j) (by omega)
  have b := oneTo_mono r (j := j + 1) (k := n) (by omega)
  rw [oneTo_succ, if_pos h1] at a
  rw [oneTo_succ, if_pos h2] at b
  omega
/-- One or none, if no two are 1. -/
theorem ones_one {r : List Int} : ∀ {n : Nat}, (∀ i j, i < j → j < n → nth r i = 1 → nth r j ≠ 1) → oneTo r n ≤ 1
  | 0, _ => by simp [oneTo]
  | n + 1, h => by
    rw [oneTo_succ]
    have ih := ones_one (r := r) (n := n) (fun i j a b => h i j a (by omega))
    by_cases e : nth r n = 1
    · rw [if_pos e]
      have hz : ∀ m, m ≤ n → oneTo r m = 0 := fun m => by
        induction m with
        | zero => intro _; rfl
        | succ m im =>
          intro hm
          rw [oneTo_succ, im (by omega), if_neg (fun h1 => h m n (by omega) (by omega) h1 e)]
      rw [hz n (Nat.le_refl _)]; omega
    · rw [if_neg e]; omega

/-- A table. -/
structure Tab (t : List (List Int)) : Prop where
  r1 : 1 ≤ t.length
  r2 : t.length ≤ 12
  a1 : 1 ≤ (row t 0).length
  a2 : (row t 0).length ≤ 8
  len : ∀ k, k < t.length → (row t k).length = (row t 0).length
  bit : ∀ k j, k < t.length → j < (row t k).length → nth (row t k) j = 0 ∨ nth (row t k) j = 1
def bitB (r : List Int) : Bool := r.all fun x => decide (0 ≤ x) && decide (x ≤ 1)
def tabB (t : List (List Int)) : Bool := decide (1 ≤ t.length) && (decide (t.length ≤ 12) && (decide (1 ≤ (row t 0).length) && (decide ((row t 0).length ≤ 8) && t.all fun r => decide (r.length = (row t 0).length) && bitB r)))
theorem bitB_true {r : List Int} : bitB r = true ↔ ∀ j, j < r.length → nth r j = 0 ∨ nth r j = 1 := by
  unfold bitB
  rw [List.all_eq_true]
  constructor
  · intro h j hj
    have := h _ (nth_mem hj)
    simp at this; omega
  · intro h x hx
    obtain ⟨j, hj, e⟩ := nth_of hx
    rw [← e]
    rcases h j hj with e | e <;> rw [e] <;> decide
theorem tabB_true {t : List (List Int)} : tabB t = true ↔ Tab t := by
  unfold tabB
  simp only [Bool.and_eq_true, decide_eq_true_eq, List.all_eq_true]
  constructor
  · rintro ⟨h1, h2, h3, h4, h5⟩
    refine ⟨h1, h2, h3, h4, fun k hk => (h5 _ (row_mem hk)).1, fun k j hk hj => bitB_true.1 (h5 _ (row_mem hk)).2 j hj⟩
  · intro h
    refine ⟨h.r1, h.r2, h.a1, h.a2, fun r hr => ?_⟩
    obtain ⟨k, hk, e⟩ := row_of hr
    rw [← e]
    exact ⟨h.len k hk, bitB_true.2 (h.bit k · hk)⟩
theorem tabB_false {t : List (List Int)} (h : ¬ Tab t) : tabB t = false := by
  cases hb : tabB t
  · rfl
  · exact absurd (tabB_true.1 hb) h

def takTo (t : List (List Int)) : Nat → Nat
  | 0 => 0
  | k + 1 => takTo t k + ones (row t k)
def tak (t : List (List Int)) : Nat := takTo t t.length
def paiTo (t : List (List Int)) : Nat → Nat
  | 0 => 0
  | k + 1 => paiTo t k + ones (row t k) * (ones (row t k) - 1)
def pai (t : List (List Int)) : Nat := paiTo t t.length
theorem takTo_le (t : List (List Int)) (n : Nat) (h : ∀ k, ones (row t k) ≤ n) : ∀ k, takTo t k ≤ k * n
  | 0 => by simp [takTo]
  | k + 1 => by
    have := takTo_le t n h k
    have := h k
    rw [takTo, Nat.succ_mul]; omega
/-- Rows with one at most have no more than there are rows. -/
theorem tak_few {t : List (List Int)} : ∀ {n : Nat}, (∀ k, k < n → ones (row t k) ≤ 1) → takTo t n ≤ n
  | 0, _ => Nat.le_refl _
  | n + 1, h => by
    have := tak_few (t := t) (n := n) (fun k hk => h k (by omega))
    have := h n (by omega)
    rw [takTo]; omega
theorem pai_none {t : List (List Int)} : ∀ {n : Nat}, (∀ k, k < n → ones (row t k) ≤ 1) → paiTo t n = 0
  | 0, _ => rfl
  | n + 1, h => by
    rw [paiTo, pai_none (t := t) (n := n) (fun k hk => h k (by omega))]
    have := h n (by omega)
    have : ones (row t n) = 0 ∨ ones (row t n) = 1 := by omega
    rcases this with e | e <;> rw [e]
theorem pai_some {t : List (List Int)} {k : Nat} (h : 2 ≤ ones (row t k)) : ∀ {n : Nat}, k < n → 0 < paiTo t n
  | n + 1, hk => by
    rw [paiTo]
    by_cases e : k = n
    · subst e
      have : 0 < ones (row t k) * (ones (row t k) - 1) := Nat.mul_pos (by omega) (by omega)
      omega
    · have := pai_some h (n := n) (by omega); omega

/-! ### pairs are at least so many -/
theorem sq_nonneg (x : Int) : 0 ≤ x * x := by
  by_cases h : 0 ≤ x
  · exact Int.mul_nonneg h h
  · have := Int.mul_nonneg (show 0 ≤ -x by omega) (show 0 ≤ -x by omega)
    rwa [Int.neg_mul_neg] at this
def sqTo (t : List (List Int)) : Nat → Int
  | 0 => 0
  | k + 1 => sqTo t k + (ones (row t k) : Int) * ones (row t k)
theorem sq_apart (t : List (List Int)) (r : Int) : ∀ n : Nat, 0 ≤ sqTo t n - 2 * r * takTo t n + n * (r * r)
  | 0 => by simp [sqTo, takTo]
  | n + 1 => by
    have ih := sq_apart t r n
    have h := sq_nonneg ((ones (row t n) : Int) - r)
    rw [sqTo, takTo, Int.natCast_add, Int.natCast_add]
    grind
theorem sq_all (t : List (List Int)) : ∀ n : Nat, (takTo t n : Int) * takTo t n ≤ n * sqTo t n
  | 0 => by simp [sqTo, takTo]
  | n + 1 => by
    have ih := sq_all t n
    have h := sq_apart t (ones (row t n)) n
    rw [sqTo, takTo, Int.natCast_add, Int.natCast_add]
    grind
theorem pai_sq (t : List (List Int)) : ∀ n : Nat, (paiTo t n : Int) + takTo t n = sqTo t n
  | 0 => rfl
  | n + 1 => by
    have ih := pai_sq t n
    rw [paiTo, takTo, sqTo, Int.natCast_add, Int.natCast_add, Int.natCast_mul]
    obtain ⟨o, ho⟩ : ∃ o, ones (row t n) = o := ⟨_, rfl⟩
    rw [ho]
    cases o with
    | zero => simp; omega
    | succ o =>
      rw [Nat.succ_sub_one, Int.natCast_succ]
      grind
/-- The rows times the pairs are at least the number taken, times this less the rows. -/
theorem pai_least (t : List (List Int)) (n : Nat) : (takTo t n : Int) * ((takTo t n : Int) - n) ≤ n * paiTo t n := by
  have h1 := sq_all t n
  have h2 := pai_sq t n
  rw [← h2] at h1
  grind

/-! ### two times -/
/-- The row of the products of two rows. -/
def mulIn (x : Int) (s : List Int) : Nat → List Int
  | 0 => []
  | h + 1 => mulIn x s h ++ [x * nth s h]
def mulTo (r s : List Int) : Nat → List Int
  | 0 => []
  | i + 1 => mulTo r s i ++ mulIn (nth r i) s s.length
theorem mulIn_len (x : Int) (s : List Int) : ∀ h, (mulIn x s h).length = h
  | 0 => rfl
  | h + 1 => by rw [mulIn, List.length_append, mulIn_len x s h]; rfl
theorem mulTo_len (r s : List Int) : ∀ i, (mulTo r s i).length = i * s.length
  | 0 => by simp [mulTo]
  | i + 1 => by rw [mulTo, List.length_append, mulTo_len r s i, mulIn_len, Nat.succ_mul]
/-- Entries that are 1, of a list. -/
def cnt1 (xs : List Int) : Nat := (xs.filter fun x => decide (x = 1)).length
theorem cnt1_app (xs ys : List Int) : cnt1 (xs ++ ys) = cnt1 xs + cnt1 ys := by unfold cnt1; rw [List.filter_append, List.length_append]
theorem cnt1_one (x : Int) : cnt1 [x] = if x = 1 then 1 else 0 := by
  unfold cnt1
  by_cases h : x = 1
  · simp [h]
  · simp [h]
theorem take_succ' {xs : List Int} {k : Nat} (hk : k < xs.length) : xs.take (k + 1) = xs.take k ++ [nth xs k] := by
  rw [List.take_add_one, List.getElem?_eq_getElem hk, nth_get hk]; rfl
theorem oneTo_cnt (r : List Int) : ∀ k, k ≤ r.length → oneTo r k = cnt1 (r.take k)
  | 0, _ => by simp [oneTo, cnt1]
  | k + 1, hk => by
    rw [oneTo_succ, oneTo_cnt r k (by omega), take_succ' (by omega), cnt1_app, cnt1_one]
theorem ones_cnt (r : List Int) : ones r = cnt1 r := by
  unfold ones; rw [oneTo_cnt r _ (Nat.le_refl _), List.take_length]
theorem mulIn_cnt {x : Int} (hx : x = 0 ∨ x = 1) (s : List Int) : ∀ h, h ≤ s.length → cnt1 (mulIn x s h) = if x = 1 then oneTo s h else 0
  | 0, _ => by simp [mulIn, cnt1, oneTo]
  | h + 1, hh => by
    rw [mulIn, cnt1_app, mulIn_cnt hx s h (by omega), cnt1_one, oneTo_succ]
    rcases hx with e | e
    · subst e; simp
    · subst e; simp
theorem mulTo_cnt {r s : List Int} (hr : ∀ j, j < r.length → nth r j = 0 ∨ nth r j = 1) : ∀ i, i ≤ r.length → cnt1 (mulTo r s i) = oneTo r i * ones s
  | 0, _ => by simp [mulTo, cnt1, oneTo]
  | i + 1, hi => by
    rw [mulTo, cnt1_app, mulTo_cnt hr i (by omega), mulIn_cnt (hr i (by omega)) s _ (Nat.le_refl _), oneTo_succ, Nat.add_mul]
    by_cases e : nth r i = 1
    · rw [if_pos e, if_pos e, Nat.one_mul]; rfl
    · rw [if_neg e, if_neg e, Nat.zero_mul]
def mulRow (r s : List Int) : List Int := mulTo r s r.length
theorem mulRow_ones {r s : List Int} (hr : ∀ j, j < r.length → nth r j = 0 ∨ nth r j = 1) : ones (mulRow r s) = ones r * ones s := by
  rw [ones_cnt, mulRow, mulTo_cnt hr _ (Nat.le_refl _)]; rfl
/-- For one row of the first table, the rows of the second one. -/
def timIn (r : List Int) (b : List (List Int)) : Nat → List (List Int)
  | 0 => []
  | j + 1 => timIn r b j ++ [mulRow r (row b j)]
def timTo (a b : List (List Int)) : Nat → List (List Int)
  | 0 => []
  | k + 1 => timTo a b k ++ timIn (row a k) b b.length
def timT (a b : List (List Int)) : List (List Int) := timTo a b a.length
theorem timIn_len (r : List Int) (b : List (List Int)) : ∀ j, (timIn r b j).length = j
  | 0 => rfl
  | j + 1 => by rw [timIn, List.length_append, timIn_len r b j]; rfl
theorem timTo_len (a b : List (List Int)) : ∀ k, (timTo a b k).length = k * b.length
  | 0 => by simp [timTo]
  | k + 1 => by rw [timTo, List.length_append, timTo_len a b k, timIn_len, Nat.succ_mul]
theorem timT_len (a b : List (List Int)) : (timT a b).length = a.length * b.length := timTo_len a b _
/-- How many are taken in a list of rows. -/
def takL (t : List (List Int)) : Nat := (t.map ones).sum
theorem takL_app (a b : List (List Int)) : takL (a ++ b) = takL a + takL b := by unfold takL; rw [List.map_append, List.sum_append]
theorem takL_one (r : List Int) : takL [r] = ones r := by unfold takL; simp
theorem takeR_succ {t : List (List Int)} {k : Nat} (hk : k < t.length) : t.take (k + 1) = t.take k ++ [row t k] := by
  rw [List.take_add_one, List.getElem?_eq_getElem hk, row_get hk]; rfl
theorem takTo_L (t : List (List Int)) : ∀ k, k ≤ t.length → takTo t k = takL (t.take k)
  | 0, _ => by simp [takTo, takL]
  | k + 1, hk => by rw [takTo, takTo_L t k (by omega), takeR_succ (by omega), takL_app, takL_one]
theorem tak_L (t : List (List Int)) : tak t = takL t := by unfold tak; rw [takTo_L t _ (Nat.le_refl _), List.take_length]
theorem timIn_tak {r : List Int} (hr : ∀ j, j < r.length → nth r j = 0 ∨ nth r j = 1) (b : List (List Int)) : ∀ j, takL (timIn r b j) = ones r * takTo b j
  | 0 => by simp [timIn, takL, takTo]
  | j + 1 => by rw [timIn, takL_app, timIn_tak hr b j, takL_one, mulRow_ones hr, takTo, Nat.mul_add]
theorem timTo_tak {a : List (List Int)} (ha : ∀ k, k < a.length → ∀ j, j < (row a k).length → nth (row a k) j = 0 ∨ nth (row a k) j = 1) (b : List (List Int)) : ∀ k, k ≤ a.length → takL (timTo a b k) = takTo a k * tak b
  | 0, _ => by simp [timTo, takL, takTo]
  | k + 1, hk => by rw [timTo, takL_app, timTo_tak ha b k (by omega), timIn_tak (ha k (by omega)), takTo, Nat.add_mul]; rfl
/-- As many are taken as in both, multiplied. -/
theorem tim_tak {a b : List (List Int)} (ha : Tab a) : tak (timT a b) = tak a * tak b := by
  rw [tak_L, timT, timTo_tak (fun k hk j hj => ha.bit k j hk hj) b _ (Nat.le_refl _)]; rfl

/-! ### the first row and the others -/
theorem tak_cons (r : List Int) (t : List (List Int)) : tak (r :: t) = ones r + tak t := by
  rw [tak_L, tak_L]; unfold takL; simp


/-! ### fractions in lowest terms -/
def low (u d : Nat) : Nat × Nat := (u / Nat.gcd u d, d / Nat.gcd u d)
theorem low_pos {u d : Nat} (hd : 0 < d) : 0 < (low u d).2 :=
  Nat.div_pos (Nat.gcd_le_right u hd) (Nat.gcd_pos_of_pos_right u hd)
theorem low_cop {u d : Nat} (hd : 0 < d) : Nat.gcd (low u d).1 (low u d).2 = 1 :=
  Nat.coprime_div_gcd_div_gcd (Nat.gcd_pos_of_pos_right u hd)
theorem low_up (u d : Nat) : (low u d).1 * Nat.gcd u d = u := Nat.div_mul_cancel (Nat.gcd_dvd_left u d)
theorem low_down (u d : Nat) : (low u d).2 * Nat.gcd u d = d := Nat.div_mul_cancel (Nat.gcd_dvd_right u d)
theorem low_same (u d : Nat) : (low u d).1 * d = u * (low u d).2 := by
  have a := low_up u d
  have b := low_down u d
  obtain ⟨g, hg⟩ : ∃ g, Nat.gcd u d = g := ⟨_, rfl⟩
  rw [hg] at a b
  obtain ⟨p, hp⟩ : ∃ p, low u d = p := ⟨_, rfl⟩
  rw [hp] at a b ⊢
  rw [← a, ← b]
  grind
/-- Two fractions in lowest terms that are as large are the same. -/
theorem cop_one {u d v e : Nat} (hd : 0 < d) (he : 0 < e) (hu : Nat.gcd u d = 1) (hv : Nat.gcd v e = 1) (h : u * e = v * d) : u = v ∧ d = e := by
  have h1 : d ∣ e := Nat.Coprime.dvd_of_dvd_mul_left (k := d) (m := u) (n := e) (by rw [Nat.Coprime, Nat.gcd_comm]; exact hu) ⟨v, by rw [h, Nat.mul_comm]⟩
  have h2 : e ∣ d := Nat.Coprime.dvd_of_dvd_mul_left (k := e) (m := v) (n := d) (by rw [Nat.Coprime, Nat.gcd_comm]; exact hv) ⟨u, by rw [← h, Nat.mul_comm]⟩
  have hde := Nat.dvd_antisymm h1 h2
  subst hde
  exact ⟨Nat.eq_of_mul_eq_mul_right hd h, rfl⟩
theorem low_is {u d v e : Nat} (hd : 0 < d) (he : 0 < e) (hv : Nat.gcd v e = 1) (h : u * e = v * d) : low u d = (v, e) := by
  have hs := low_same u d
  have hp := low_pos (u := u) hd
  have : (low u d).1 * e = v * (low u d).2 := by
    have : d * ((low u d).1 * e) = d * (v * (low u d).2) := by grind
    exact Nat.eq_of_mul_eq_mul_left hd this
  obtain ⟨a, b⟩ := cop_one hp he (low_cop hd) hv this
  exact Prod.ext a b
/-- As large, the same lowest terms. -/
theorem low_eq {u d v e : Nat} (hd : 0 < d) (he : 0 < e) (h : u * e = v * d) : low u d = low v e := by
  refine low_is hd (low_pos he) (low_cop he) ?_
  have hs := low_same v e
  have : e * (u * (low v e).2) = e * ((low v e).1 * d) := by grind
  exact Nat.eq_of_mul_eq_mul_left he this
/-- At most as large, and so in lowest terms. -/
theorem low_le {u d n : Nat} (hd : 0 < d) : (low u d).1 ≤ n * (low u d).2 ↔ u ≤ n * d := by
  have a := low_up u d
  have b := low_down u d
  have g := Nat.gcd_pos_of_pos_right u hd
  obtain ⟨G, hG⟩ : ∃ G, Nat.gcd u d = G := ⟨_, rfl⟩
  rw [hG] at a b g
  constructor
  · intro h
    have := Nat.mul_le_mul_right G h
    rw [a, Nat.mul_assoc, b] at this; exact this
  · intro h
    have h' : (low u d).1 * G ≤ n * (low u d).2 * G := by rw [a, Nat.mul_assoc, b]; exact h
    exact Nat.le_of_mul_le_mul_right h' g
theorem low_ge {u d n : Nat} (hd : 0 < d) : n * (low u d).2 ≤ (low u d).1 ↔ n * d ≤ u := by
  have a := low_up u d
  have b := low_down u d
  have g := Nat.gcd_pos_of_pos_right u hd
  obtain ⟨G, hG⟩ : ∃ G, Nat.gcd u d = G := ⟨_, rfl⟩
  rw [hG] at a b g
  constructor
  · intro h
    have := Nat.mul_le_mul_right G h
    rw [a, Nat.mul_assoc, b] at this; exact this
  · intro h
    have h' : n * (low u d).2 * G ≤ (low u d).1 * G := by rw [a, Nat.mul_assoc, b]; exact h
    exact Nat.le_of_mul_le_mul_right h' g

/-! ### asked again -/
/-- What a row adds, 420 times. -/
def agRow (m : Nat) : Nat := if 2 ≤ m then 420 * m / (m - 1) else 0
theorem agRow_le {m : Nat} (h : m ≤ 8) : agRow m ≤ 840 := by
  have : m = 0 ∨ m = 1 ∨ m = 2 ∨ m = 3 ∨ m = 4 ∨ m = 5 ∨ m = 6 ∨ m = 7 ∨ m = 8 := by omega
  rcases this with e | e | e | e | e | e | e | e | e <;> subst e <;> decide
theorem agRow_mul {m : Nat} (h : m ≤ 8) (h2 : 2 ≤ m) : agRow m * (m - 1) = 420 * m := by
  have : m = 2 ∨ m = 3 ∨ m = 4 ∨ m = 5 ∨ m = 6 ∨ m = 7 ∨ m = 8 := by omega
  rcases this with e | e | e | e | e | e | e <;> subst e <;> decide
theorem agRow_pos {m : Nat} (h : m ≤ 8) : 0 < agRow m ↔ 2 ≤ m := by
  have : m = 0 ∨ m = 1 ∨ m = 2 ∨ m = 3 ∨ m = 4 ∨ m = 5 ∨ m = 6 ∨ m = 7 ∨ m = 8 := by omega
  rcases this with e | e | e | e | e | e | e | e | e <;> subst e <;> decide
def agTo (t : List (List Int)) : Nat → Nat
  | 0 => 0
  | k + 1 => agTo t k + agRow (ones (row t k))
def ag (t : List (List Int)) : Nat := agTo t t.length
theorem agTo_le {t : List (List Int)} : ∀ {n : Nat}, (∀ k, k < n → ones (row t k) ≤ 8) → agTo t n ≤ 840 * n
  | 0, _ => Nat.le_refl _
  | n + 1, h => by
    have := agTo_le (t := t) (n := n) (fun k hk => h k (by omega))
    have := agRow_le (h n (by omega))
    rw [agTo]; omega
theorem agTo_pos {t : List (List Int)} : ∀ {n : Nat}, (∀ k, k < n → ones (row t k) ≤ 8) → (0 < agTo t n ↔ ∃ k, k < n ∧ 2 ≤ ones (row t k))
  | 0, _ => by simp [agTo]
  | n + 1, h => by
    have ih := agTo_pos (t := t) (n := n) (fun k hk => h k (by omega))
    have hr := agRow_pos (h n (by omega))
    rw [agTo]
    constructor
    · intro hp
      by_cases e : 0 < agTo t n
      · obtain ⟨k, hk, h2⟩ := ih.1 e; exact ⟨k, by omega, h2⟩
      · exact ⟨n, by omega, hr.1 (by omega)⟩
    · rintro ⟨k, hk, h2⟩
      by_cases e : k = n
      · subst e; have := hr.2 h2; omega
      · have := ih.2 ⟨k, by omega, h2⟩; omega
theorem Tab.ones8 {t : List (List Int)} (h : Tab t) {k : Nat} (hk : k < t.length) : ones (row t k) ≤ 8 := by
  have := ones_le (row t k)
  have := h.len k hk
  have := h.a2
  omega
/-- The fraction of AgainOf. -/
def agF (t : List (List Int)) : Nat × Nat := low (ag t + 420 * t.length) (420 * t.length)
/-- One row more: the fraction so far, with the next row's. -/
theorem ag_step {t : List (List Int)} {k u d : Nat} (h8 : ones (row t k) ≤ 8) (h : u * 420 = agTo t k * d) :
    (if 2 ≤ ones (row t k) then (u * (ones (row t k) - 1) + ones (row t k) * d) * 420 = agTo t (k + 1) * (d * (ones (row t k) - 1)) else u * 420 = agTo t (k + 1) * d) := by
  by_cases h2 : 2 ≤ ones (row t k)
  · rw [if_pos h2]
    have hm := agRow_mul h8 h2
    rw [agTo]
    obtain ⟨m, hm'⟩ : ∃ m, ones (row t k) - 1 = m := ⟨_, rfl⟩
    rw [hm'] at hm ⊢
    obtain ⟨o, ho⟩ : ∃ o, ones (row t k) = o := ⟨_, rfl⟩
    rw [ho] at hm ⊢
    obtain ⟨A, hA⟩ : ∃ A, agRow o = A := ⟨_, rfl⟩
    rw [hA] at hm ⊢
    obtain ⟨B, hB⟩ : ∃ B, agTo t k = B := ⟨_, rfl⟩
    rw [hB] at h ⊢
    grind
  · rw [if_neg h2, agTo, agRow, if_neg h2]; exact h
/-- The sum u / d of all rows gives the fraction. -/
theorem agF_is {t : List (List Int)} {u d : Nat} (ht : 0 < t.length) (hd : 0 < d) (h : u * 420 = ag t * d) :
    low (u + t.length * d) (t.length * d) = agF t := by
  refine low_eq (Nat.mul_pos ht hd) (Nat.mul_pos (by decide) ht) ?_
  obtain ⟨R, hR⟩ : ∃ R, t.length = R := ⟨_, rfl⟩
  obtain ⟨S, hS⟩ : ∃ S, ag t = S := ⟨_, rfl⟩
  rw [hS] at h
  rw [hR, hS]
  grind
theorem agF_pos {t : List (List Int)} (h : Tab t) : 0 < (agF t).2 := low_pos (by have := h.r1; omega)
theorem agF_ge {t : List (List Int)} (h : Tab t) : (agF t).2 ≤ (agF t).1 := by
  have := (low_ge (u := ag t + 420 * t.length) (n := 1) (show 0 < 420 * t.length by have := h.r1; omega)).2 (by omega)
  unfold agF; omega
theorem agF_le {t : List (List Int)} (h : Tab t) : (agF t).1 ≤ 3 * (agF t).2 := by
  have := agTo_le (t := t) (n := t.length) (fun k hk => h.ones8 hk)
  exact (low_le (show 0 < 420 * t.length by have := h.r1; omega)).2 (by unfold ag; omega)
theorem agF_gt {t : List (List Int)} (h : Tab t) : (agF t).2 < (agF t).1 ↔ ∃ k, k < t.length ∧ 2 ≤ ones (row t k) := by
  rw [← agTo_pos (fun k hk => h.ones8 hk)]
  have := low_le (u := ag t + 420 * t.length) (n := 1) (show 0 < 420 * t.length by have := h.r1; omega)
  have e : ag t = agTo t t.length := rfl
  unfold agF
  omega

/-! ### the power -/
theorem gcd_pow {u d : Nat} (h : Nat.gcd u d = 1) (k : Nat) : Nat.gcd (u ^ k) (d ^ k) = 1 := Nat.Coprime.pow k k h
/-- The fraction of ChanceOf. -/
def chF (t : List (List Int)) (k : Nat) : Nat × Nat := ((low (tak t) (t.length * (row t 0).length)).1 ^ k, (low (tak t) (t.length * (row t 0).length)).2 ^ k)
theorem Tab.npos {t : List (List Int)} (h : Tab t) : 0 < t.length * (row t 0).length := Nat.mul_pos h.r1 h.a1
theorem Tab.tak_le {t : List (List Int)} (h : Tab t) : tak t ≤ t.length * (row t 0).length := by
  have hk : ∀ n, n ≤ t.length → takTo t n ≤ n * (row t 0).length := fun n => by
    induction n with
    | zero => intro _; simp [takTo]
    | succ n ih =>
      intro hn
      have := ih (by omega)
      have := ones_le (row t n)
      rw [h.len n (by omega)] at this
      rw [takTo, Nat.succ_mul]; omega
  exact hk _ (Nat.le_refl _)
/-- The power first, the lowest terms then. -/
theorem chF_low {t : List (List Int)} (h : Tab t) (k : Nat) : low (tak t ^ k) ((t.length * (row t 0).length) ^ k) = chF t k := by
  refine low_is (Nat.pow_pos h.npos) (Nat.pow_pos (low_pos h.npos)) (gcd_pow (low_cop h.npos) k) ?_
  rw [← Nat.mul_pow, ← Nat.mul_pow, low_same]
theorem chF_one (t : List (List Int)) : chF t 1 = low (tak t) (t.length * (row t 0).length) := by unfold chF; rw [Nat.pow_one, Nat.pow_one]
theorem chF_pos {t : List (List Int)} (h : Tab t) (k : Nat) : 0 < (chF t k).2 := Nat.pow_pos (low_pos h.npos)
theorem chF_le {t : List (List Int)} (h : Tab t) (k : Nat) : (chF t k).1 ≤ (chF t k).2 := by
  refine Nat.pow_le_pow_left ?_ k
  have := (low_le (u := tak t) (n := 1) h.npos).2 (by have := h.tak_le; omega)
  omega
/-- More times make it no greater. -/
theorem chF_less {t : List (List Int)} (h : Tab t) {k : Nat} (hk : 1 ≤ k) : (chF t k).1 * (chF t 1).2 ≤ (chF t 1).1 * (chF t k).2 := by
  obtain ⟨m, rfl⟩ : ∃ m, k = m + 1 := ⟨k - 1, by omega⟩
  have hm := chF_le h m
  unfold chF at hm ⊢
  rw [Nat.pow_one, Nat.pow_one, Nat.pow_succ, Nat.pow_succ]
  obtain ⟨p, hp⟩ : ∃ p, low (tak t) (t.length * (row t 0).length) = p := ⟨_, rfl⟩
  rw [hp] at hm ⊢
  have := Nat.mul_le_mul_right (p.1 * p.2) hm
  rw [show p.1 ^ m * p.1 * p.2 = p.1 ^ m * (p.1 * p.2) from Nat.mul_assoc _ _ _]
  rw [show p.1 * (p.2 ^ m * p.2) = p.2 ^ m * (p.1 * p.2) by rw [Nat.mul_left_comm]]
  exact this

/-! ### two times is a table -/
theorem row_app_left {a b : List (List Int)} {k : Nat} (hk : k < a.length) : row (a ++ b) k = row a k := by
  unfold row
  rw [List.getD_eq_getElem?_getD, List.getD_eq_getElem?_getD, List.getElem?_append_left hk]
theorem row_app_right {a b : List (List Int)} {k : Nat} (hk : a.length ≤ k) : row (a ++ b) k = row b (k - a.length) := by
  unfold row
  rw [List.getD_eq_getElem?_getD, List.getD_eq_getElem?_getD, List.getElem?_append_right hk]
theorem mulRow_len (r s : List Int) : (mulRow r s).length = r.length * s.length := mulTo_len r s _
theorem mulIn_mem {x y : Int} {s : List Int} : ∀ {h : Nat}, h ≤ s.length → y ∈ mulIn x s h → ∃ z, z ∈ s ∧ y = x * z
  | 0, _, hy => by simp [mulIn] at hy
  | h + 1, hh, hy => by
    rw [mulIn, List.mem_append] at hy
    rcases hy with hy | hy
    · exact mulIn_mem (h := h) (by omega) hy
    · exact ⟨nth s h, nth_mem (by omega), by simpa using hy⟩
theorem mulTo_mem {y : Int} {r s : List Int} : ∀ {i : Nat}, i ≤ r.length → y ∈ mulTo r s i → ∃ x z, x ∈ r ∧ z ∈ s ∧ y = x * z
  | 0, _, hy => by simp [mulTo] at hy
  | i + 1, hi, hy => by
    rw [mulTo, List.mem_append] at hy
    rcases hy with hy | hy
    · exact mulTo_mem (i := i) (by omega) hy
    · obtain ⟨z, hz, e⟩ := mulIn_mem (Nat.le_refl _) hy
      exact ⟨nth r i, z, nth_mem (by omega), hz, e⟩
theorem mulRow_bit {r s : List Int} (hr : ∀ j, j < r.length → nth r j = 0 ∨ nth r j = 1) (hs : ∀ j, j < s.length → nth s j = 0 ∨ nth s j = 1) :
    ∀ j, j < (mulRow r s).length → nth (mulRow r s) j = 0 ∨ nth (mulRow r s) j = 1 := by
  intro j hj
  obtain ⟨x, z, hx, hz, e⟩ := mulTo_mem (y := nth (mulRow r s) j) (Nat.le_refl _) (nth_mem hj)
  rw [e]
  obtain ⟨p, hp, rfl⟩ := nth_of hx
  obtain ⟨q, hq, rfl⟩ := nth_of hz
  rcases hr p hp with e1 | e1 <;> rcases hs q hq with e2 | e2 <;> rw [e1, e2] <;> decide
theorem timIn_mem {r y : List Int} {b : List (List Int)} : ∀ {j : Nat}, j ≤ b.length → y ∈ timIn r b j → ∃ q, q < b.length ∧ y = mulRow r (row b q)
  | 0, _, hy => by simp [timIn] at hy
  | j + 1, hj, hy => by
    rw [timIn, List.mem_append] at hy
    rcases hy with hy | hy
    · exact timIn_mem (j := j) (by omega) hy
    · exact ⟨j, by omega, by simpa using hy⟩
theorem timTo_mem {y : List Int} {a b : List (List Int)} : ∀ {k : Nat}, k ≤ a.length → y ∈ timTo a b k → ∃ p q, p < a.length ∧ q < b.length ∧ y = mulRow (row a p) (row b q)
  | 0, _, hy => by simp [timTo] at hy
  | k + 1, hk, hy => by
    rw [timTo, List.mem_append] at hy
    rcases hy with hy | hy
    · exact timTo_mem (k := k) (by omega) hy
    · obtain ⟨q, hq, e⟩ := timIn_mem (Nat.le_refl _) hy
      exact ⟨k, q, by omega, hq, e⟩
theorem tim_row {a b : List (List Int)} (ha : Tab a) (hb : Tab b) {k : Nat} (hk : k < (timT a b).length) :
    (row (timT a b) k).length = (row a 0).length * (row b 0).length ∧ ∀ j, j < (row (timT a b) k).length → nth (row (timT a b) k) j = 0 ∨ nth (row (timT a b) k) j = 1 := by
  obtain ⟨p, q, hp, hq, e⟩ := timTo_mem (y := row (timT a b) k) (Nat.le_refl _) (row_mem hk)
  rw [e]
  refine ⟨?_, mulRow_bit (fun j hj => ha.bit p j hp hj) (fun j hj => hb.bit q j hq hj)⟩
  rw [mulRow_len, ha.len p hp, hb.len q hq]
theorem tim_len {a b : List (List Int)} (ha : Tab a) (hb : Tab b) : (row (timT a b) 0).length = (row a 0).length * (row b 0).length :=
  (tim_row ha hb (by rw [timT_len]; exact Nat.mul_pos ha.r1 hb.r1)).1
/-- The product of two tables is one if it is small enough. -/
theorem tim_tab {a b : List (List Int)} (ha : Tab a) (hb : Tab b) : Tab (timT a b) ↔ a.length * b.length ≤ 12 ∧ (row a 0).length * (row b 0).length ≤ 8 := by
  constructor
  · intro h
    have h1 := h.r2
    have h2 := h.a2
    rw [timT_len] at h1
    rw [tim_len ha hb] at h2
    exact ⟨h1, h2⟩
  · rintro ⟨h1, h2⟩
    refine ⟨by rw [timT_len]; exact Nat.mul_pos ha.r1 hb.r1, by rw [timT_len]; exact h1, by rw [tim_len ha hb]; exact Nat.mul_pos ha.a1 hb.a1, by rw [tim_len ha hb]; exact h2, fun k hk => by rw [(tim_row ha hb hk).1, tim_len ha hb], fun k j hk hj => (tim_row ha hb hk).2 j hj⟩
/-- Two times are as the table of two times, once. -/
theorem chF_two {t : List (List Int)} (h : Tab t) (_h2 : Tab (timT t t)) : chF (timT t t) 1 = chF t 2 := by
  rw [chF_one, tim_tak h, timT_len, tim_len h h, ← chF_low h 2]
  have e1 : tak t * tak t = tak t ^ 2 := by rw [Nat.pow_two]
  have e2 : t.length * t.length * ((row t 0).length * (row t 0).length) = (t.length * (row t 0).length) ^ 2 := by rw [Nat.pow_two]; grind
  rw [e1, e2]

/-! ### the sum of a row, and the first row with two -/
theorem one_step {r : List Int} {k : Nat} (hr : nth r k = 0 ∨ nth r k = 1) : ((oneTo r (k + 1) : Nat) : Int) = oneTo r k + nth r k := by
  rw [oneTo_succ]
  rcases hr with e | e <;> rw [e] <;> simp
/-- The first row with two, and the first two. -/
structure Tw (t : List (List Int)) (k i j : Nat) : Prop where
  hk : k < t.length
  early : ∀ m, m < k → ones (row t m) ≤ 1
  hij : i < j
  hj : j < (row t k).length
  h1 : nth (row t k) i = 1
  h2 : nth (row t k) j = 1
  only : ∀ m, m < j → nth (row t k) m = 1 → m = i
theorem Tw.two {t : List (List Int)} {k i j : Nat} (h : Tw t k i j) : 2 ≤ ones (row t k) := ones_two h.hij h.hj h.h1 h.h2
theorem Tw.one {t : List (List Int)} {k i j k' i' j' : Nat} (h : Tw t k i j) (h' : Tw t k' i' j') : k = k' ∧ i = i' ∧ j = j' := by
  have ek : k = k' := by
    have a := h.two
    have b := h'.two
    by_cases c : k < k'
    · have := h'.early k c; omega
    · by_cases d : k' < k
      · have := h.early k' d; omega
      · omega
  subst ek
  have ej : j = j' := by
    by_cases c : j < j'
    · have e1 := h'.only j c h.h2
      have e2 := h'.only i (by have := h.hij; omega) h.h1
      have := h.hij; omega
    · by_cases d : j' < j
      · have e1 := h.only j' d h'.h2
        have e2 := h.only i' (by have := h'.hij; omega) h'.h1
        have := h'.hij; omega
      · omega
  subst ej
  exact ⟨rfl, (h.only i' h'.hij h'.h1).symm, rfl⟩
/-- More entries that are 1 than rows: a row with two. -/
theorem two_row {t : List (List Int)} (h : t.length < tak t) : ∃ k, k < t.length ∧ 2 ≤ ones (row t k) := by
  apply Classical.byContradiction
  intro hn
  have := tak_few (t := t) (n := t.length) (fun k hk => by
    apply Classical.byContradiction
    intro h1
    exact hn ⟨k, hk, by omega⟩)
  unfold tak at h
  omega

end Go.Proofs.YtiinifcepcaonaaDoor

/- Plain mathematics of chapter 7: orders of points, graphs, and what moves them: no program. -/
namespace Go.Proofs.YtiinifcepcaonaaDoor

/-! ### orders -/
/-- Where an order leads a point. -/
def app (o : List Int) (x : Int) : Int := nth o x.toNat
structure Od (o : List Int) (m : Int) : Prop where
  len : (o.length : Int) = m
  m1 : 1 ≤ m
  m5 : m ≤ 5
  bd : ∀ j, j < o.length → 0 ≤ nth o j ∧ nth o j < m
  inj : ∀ i j, i < j → j < o.length → nth o i ≠ nth o j
def odB (o : List Int) (m : Int) : Bool :=
  decide ((o.length : Int) = m) && (decide (1 ≤ m) && (decide (m ≤ 5) && ((o.all fun x => decide (0 ≤ x) && decide (x < m)) && decide (o.Pairwise (· ≠ ·)))))
theorem pair_nth {r : Int → Int → Prop} {xs : List Int} : xs.Pairwise r ↔ ∀ i j, i < j → j < xs.length → r (nth xs i) (nth xs j) := by
  rw [List.pairwise_iff_getElem]
  constructor
  · intro h i j hij hj
    have := h i j (by omega) hj hij
    rwa [← nth_get, ← nth_get] at this
  · intro h i j hi hj hij
    have := h i j hij hj
    rwa [nth_get hi, nth_get hj] at this
theorem odB_true {o : List Int} {m : Int} : odB o m = true ↔ Od o m := by
  unfold odB
  simp only [Bool.and_eq_true, decide_eq_true_eq, List.all_eq_true]
  constructor
  · rintro ⟨h1, h2, h3, h4, h5⟩
    exact ⟨h1, h2, h3, fun j hj => h4 _ (nth_mem hj), fun i j hij hj => pair_nth.1 h5 i j hij hj⟩
  · intro h
    refine ⟨h.len, h.m1, h.m5, fun x hx => ?_, pair_nth.2 h.inj⟩
    obtain ⟨j, hj, e⟩ := nth_of hx
    rw [← e]; exact h.bd j hj
theorem odB_false {o : List Int} {m : Int} (h : ¬ Od o m) : odB o m = false := by
  cases hb : odB o m
  · rfl
  · exact absurd (odB_true.1 hb) h
theorem Od.at_ {o : List Int} {m x : Int} (h : Od o m) (h0 : 0 ≤ x) (h1 : x < m) : 0 ≤ app o x ∧ app o x < m := h.bd _ (by have := h.len; omega)
theorem Od.at_inj {o : List Int} {m x y : Int} (h : Od o m) (x0 : 0 ≤ x) (x1 : x < m) (y0 : 0 ≤ y) (y1 : y < m) (e : app o x = app o y) : x = y := by
  have hl := h.len
  rcases Int.lt_trichotomy x y with c | c | c
  · exact absurd e (h.inj _ _ (by omega) (by omega))
  · exact c
  · exact absurd e.symm (h.inj _ _ (by omega) (by omega))
/-- Orders that lead every point alike are the same. -/
theorem od_ext {a b : List Int} {m : Int} (ha : Od a m) (hb : Od b m) (h : ∀ x, 0 ≤ x → x < m → app a x = app b x) : a = b := by
  refine list_eq (by have := ha.len; have := hb.len; omega) fun j hj => ?_
  have := h j (by omega) (by have := ha.len; omega)
  simpa [app] using this

/-- The order that leads as a, and then as b. -/
def thenTo (a b : List Int) : Nat → List Int
  | 0 => []
  | k + 1 => thenTo a b k ++ [app b (nth a k)]
def thn (a b : List Int) : List Int := thenTo a b a.length
theorem thenTo_len (a b : List Int) : ∀ k, (thenTo a b k).length = k
  | 0 => rfl
  | k + 1 => by rw [thenTo, List.length_append, thenTo_len a b k]; rfl
theorem thenTo_nth (a b : List Int) : ∀ n k, k < n → nth (thenTo a b n) k = app b (nth a k)
  | 0, k, h => by omega
  | n + 1, k, h => by
    rw [thenTo, nth_app, thenTo_len]
    by_cases e : k < n
    · rw [if_pos e]; exact thenTo_nth a b n k e
    · rw [if_neg e, if_pos (by omega)]
      rw [show k = n by omega]
theorem thn_len (a b : List Int) : (thn a b).length = a.length := thenTo_len _ _ _
theorem thn_app {a b : List Int} {m x : Int} (ha : Od a m) (h0 : 0 ≤ x) (h1 : x < m) : app (thn a b) x = app b (app a x) := by
  have := ha.len
  exact thenTo_nth a b _ _ (by omega)
theorem thn_od {a b : List Int} {m : Int} (ha : Od a m) (hb : Od b m) : Od (thn a b) m := by
  have hl := ha.len
  have hk : ∀ j, j < (thn a b).length → nth (thn a b) j = app b (app a j) := fun j hj => by
    rw [thn_len] at hj
    have := thn_app (b := b) ha (x := (j : Int)) (by omega) (by omega)
    simpa [app] using this
  refine ⟨by rw [thn_len]; exact hl, ha.m1, ha.m5, fun j hj => ?_, fun i j hij hj => ?_⟩
  · rw [hk j hj]; rw [thn_len] at hj
    have a1 := ha.at_ (x := (j : Int)) (by omega) (by omega)
    exact hb.at_ a1.1 a1.2
  · rw [hk i (by omega), hk j hj]
    rw [thn_len] at hj
    have a1 := ha.at_ (x := (j : Int)) (by omega) (by omega)
    have a2 := ha.at_ (x := (i : Int)) (by omega) (by omega)
    intro e
    have e1 := hb.at_inj a2.1 a2.2 a1.1 a1.2 e
    have e2 := ha.at_inj (x := (i : Int)) (y := (j : Int)) (by omega) (by omega) (by omega) (by omega) e1
    omega

/-- The order that leads back: place a(k) holds k. -/
def backTo (a : List Int) : Nat → List Int
  | 0 => List.replicate a.length 0
  | k + 1 => (backTo a k).set (nth a k).toNat k
def bck (a : List Int) : List Int := backTo a a.length
theorem backTo_len (a : List Int) : ∀ k, (backTo a k).length = a.length
  | 0 => by simp [backTo]
  | k + 1 => by rw [backTo, List.length_set]; exact backTo_len a k
theorem bck_len (a : List Int) : (bck a).length = a.length := backTo_len _ _
theorem nth_set {xs : List Int} {i j : Nat} {y : Int} (h : i < xs.length) : nth (xs.set i y) j = if i = j then y else nth xs j := by
  unfold nth
  rw [List.getD_eq_getElem?_getD, List.getD_eq_getElem?_getD, List.getElem?_set]
  by_cases e : i = j
  · subst e; simp [h]
  · rw [if_neg e, if_neg e]
theorem backTo_at {a : List Int} {m : Int} (ha : Od a m) : ∀ n, n ≤ a.length → ∀ k, k < n → nth (backTo a n) (nth a k).toNat = k
  | 0, _, k, h => by omega
  | n + 1, hn, k, h => by
    have hl := ha.len
    have b1 := ha.bd n (by omega)
    rw [backTo, nth_set (by rw [backTo_len]; omega)]
    by_cases e : k = n
    · subst e; rw [if_pos rfl]
    · have b2 := ha.bd k (by omega)
      have hne := ha.inj k n (by omega) (by omega)
      rw [if_neg (by omega)]
      exact backTo_at ha n (by omega) k (by omega)
theorem bck_at {a : List Int} {m : Int} (ha : Od a m) {x : Int} (h0 : 0 ≤ x) (h1 : x < m) : app (bck a) (app a x) = x := by
  have hl := ha.len
  have := backTo_at ha a.length (Nat.le_refl _) x.toNat (by omega)
  unfold app bck
  rw [this]; omega
/-- A list without repetition is no longer than a list that has all of it. -/
theorem nodup_le {α : Type} [DecidableEq α] : ∀ {a l : List α}, a.Nodup → (∀ x, x ∈ a → x ∈ l) → a.length ≤ l.length
  | [], _, _, _ => Nat.zero_le _
  | x :: a, l, hn, h => by
    rw [List.nodup_cons] at hn
    have hx := h x (by simp)
    have := nodup_le (a := a) (l := l.erase x) hn.2 fun z hz => (List.mem_erase_of_ne (fun e => by subst e; exact hn.1 hz)).2 (h z (by simp [hz]))
    rw [List.length_erase_of_mem hx] at this
    have := List.length_pos_of_mem hx
    simp only [List.length_cons]; omega
/-- Every point is led to. -/
theorem Od.onto {a : List Int} {m : Int} (ha : Od a m) {y : Int} (h0 : 0 ≤ y) (h1 : y < m) : ∃ x, 0 ≤ x ∧ x < m ∧ app a x = y := by
  have hl := ha.len
  have hn : a.Nodup := pair_nth.2 ha.inj
  have hy : y ∈ a := Classical.byContradiction fun hc => by
    have := nodup_le (a := y :: a) (l := (List.range a.length).map (fun k : Nat => (k : Int))) (List.nodup_cons.2 ⟨hc, hn⟩) fun x hx => by
      rcases List.mem_cons.1 hx with rfl | hx
      · exact List.mem_map.2 ⟨x.toNat, List.mem_range.2 (by omega), by omega⟩
      · obtain ⟨j, hj, e⟩ := nth_of hx
        have := ha.bd j hj
        rw [← e]
        exact List.mem_map.2 ⟨(nth a j).toNat, List.mem_range.2 (by omega), by omega⟩
    simp only [List.length_cons, List.length_map, List.length_range] at this
    omega
  obtain ⟨j, hj, e⟩ := nth_of hy
  exact ⟨j, by omega, by omega, by simpa [app] using e⟩
theorem bck_app {a : List Int} {m : Int} (ha : Od a m) {y : Int} (h0 : 0 ≤ y) (h1 : y < m) : (0 ≤ app (bck a) y ∧ app (bck a) y < m) ∧ app a (app (bck a) y) = y := by
  obtain ⟨x, x0, x1, e⟩ := ha.onto h0 h1
  rw [← e, bck_at ha x0 x1]
  exact ⟨⟨x0, x1⟩, rfl⟩
theorem bck_od {a : List Int} {m : Int} (ha : Od a m) : Od (bck a) m := by
  have hl := ha.len
  have hk : ∀ j : Nat, nth (bck a) j = app (bck a) j := fun j => by simp [app]
  refine ⟨by rw [bck_len]; exact hl, ha.m1, ha.m5, fun j hj => ?_, fun i j hij hj => ?_⟩
  · rw [bck_len] at hj; rw [hk]; exact (bck_app ha (y := (j : Int)) (by omega) (by omega)).1
  · rw [bck_len] at hj
    rw [hk, hk]
    intro e
    have e1 := (bck_app ha (y := (i : Int)) (by omega) (by omega)).2
    have e2 := (bck_app ha (y := (j : Int)) (by omega) (by omega)).2
    rw [e] at e1
    omega
/-- The order that leaves all points. -/
def idn (n : Nat) : List Int := (List.range n).map fun k : Nat => (k : Int)
theorem idn_len (n : Nat) : (idn n).length = n := by simp [idn]
theorem idn_nth {n k : Nat} (h : k < n) : nth (idn n) k = k := by
  rw [nth_get (by rw [idn_len]; exact h)]; simp [idn]
theorem idn_app {n : Nat} {x : Int} (h0 : 0 ≤ x) (h1 : x < n) : app (idn n) x = x := by
  unfold app; rw [idn_nth (by omega)]; omega
theorem idn_od {n : Nat} (h1 : 1 ≤ n) (h5 : n ≤ 5) : Od (idn n) n := by
  refine ⟨by rw [idn_len], by omega, by omega, fun j hj => ?_, fun i j hij hj => ?_⟩
  · rw [idn_len] at hj; rw [idn_nth hj]; omega
  · rw [idn_len] at hj; rw [idn_nth hj, idn_nth (by omega)]; omega
theorem thn_bck {a : List Int} {m : Int} (ha : Od a m) : thn a (bck a) = idn a.length := by
  have hl := ha.len
  have hm := ha.m1
  have hm5 := ha.m5
  refine od_ext (m := m) (thn_od ha (bck_od ha)) (by have := idn_od (n := a.length) (by omega) (by omega); rwa [hl] at this) fun x h0 h1 => ?_
  rw [thn_app ha h0 h1, bck_at ha h0 h1, idn_app h0 (by omega)]
/-- Behind the first one, back by it leads as the second one. -/
theorem bck_thn {a b : List Int} {m : Int} (ha : Od a m) (hb : Od b m) : thn (bck a) (thn a b) = b :=
  od_ext (m := m) (thn_od (bck_od ha) (thn_od ha hb)) hb fun x h0 h1 => by
    have h := bck_app ha h0 h1
    rw [thn_app (bck_od ha) h0 h1, thn_app ha h.1.1 h.1.2, h.2]
theorem bck_bck {a : List Int} {m : Int} (ha : Od a m) : bck (bck a) = a :=
  od_ext (m := m) (bck_od (bck_od ha)) ha fun x h0 h1 => by
    have h := ha.at_ h0 h1
    have e := bck_at (bck_od ha) h.1 h.2
    rwa [bck_at ha h0 h1] at e
theorem thn_assoc {a b c : List Int} {m : Int} (ha : Od a m) (hb : Od b m) (hc : Od c m) : thn (thn a b) c = thn a (thn b c) :=
  od_ext (m := m) (thn_od (thn_od ha hb) hc) (thn_od ha (thn_od hb hc)) fun x h0 h1 => by
    have h := ha.at_ h0 h1
    rw [thn_app (thn_od ha hb) h0 h1, thn_app ha h0 h1, thn_app ha h0 h1, thn_app hb h.1 h.2]
theorem thn_idn {a : List Int} {m : Int} (ha : Od a m) : thn a (idn a.length) = a := by
  have hl := ha.len
  have hm := ha.m1
  have hm5 := ha.m5
  refine od_ext (m := m) (thn_od ha (by have := idn_od (n := a.length) (by omega) (by omega); rwa [hl] at this)) ha fun x h0 h1 => ?_
  have h := ha.at_ h0 h1
  rw [thn_app ha h0 h1, idn_app h.1 (by omega)]
theorem idn_thn {a : List Int} {m : Int} (ha : Od a m) : thn (idn a.length) a = a := by
  have hl := ha.len
  have hm := ha.m1
  have hm5 := ha.m5
  have hi : Od (idn a.length) m := by have := idn_od (n := a.length) (by omega) (by omega); rwa [hl] at this
  refine od_ext (m := m) (thn_od hi ha) ha fun x h0 h1 => ?_
  rw [thn_app hi h0 h1, idn_app h0 (by omega)]
/-- Two numbers exchanged. -/
theorem swap_od {o : List Int} {m : Int} (h : Od o m) (h2 : 2 ≤ m) : Od ((o.set 0 (nth o 1)).set 1 (nth o 0)) m := by
  have hl := h.len
  have hlen : ((o.set 0 (nth o 1)).set 1 (nth o 0)).length = o.length := by rw [List.length_set, List.length_set]
  have hn : ∀ j, nth ((o.set 0 (nth o 1)).set 1 (nth o 0)) j = if j = 1 then nth o 0 else if j = 0 then nth o 1 else nth o j := fun j => by
    rw [nth_set (by rw [List.length_set]; omega), nth_set (by omega)]
    by_cases e : 1 = j
    · rw [if_pos e, if_pos e.symm]
    · rw [if_neg e, if_neg (show ¬ j = 1 from fun h => e h.symm)]
      by_cases e0 : 0 = j
      · rw [if_pos e0, if_pos e0.symm]
      · rw [if_neg e0, if_neg (show ¬ j = 0 from fun h => e0 h.symm)]
  have b0 := h.bd 0 (by omega)
  have b1 := h.bd 1 (by omega)
  have i01 := h.inj 0 1 (by omega) (by omega)
  refine ⟨by rw [hlen]; exact hl, h.m1, h.m5, fun j hj => ?_, fun i j hij hj => ?_⟩
  · rw [hn]; rw [hlen] at hj
    by_cases e : j = 1
    · rw [if_pos e]; exact b0
    · rw [if_neg e]
      by_cases e0 : j = 0
      · rw [if_pos e0]; exact b1
      · rw [if_neg e0]; exact h.bd j hj
  · rw [hn, hn]; rw [hlen] at hj
    by_cases e : j = 1
    · rw [if_pos e, if_neg (by omega), if_pos (by omega)]; exact fun e => i01 e.symm
    · rw [if_neg e, if_neg (show ¬ j = 0 by omega)]
      by_cases e0 : i = 1
      · rw [if_pos e0]; exact h.inj 0 j (by omega) hj
      · rw [if_neg e0]
        by_cases e1 : i = 0
        · rw [if_pos e1]; exact h.inj 1 j (by omega) hj
        · rw [if_neg e1]; exact h.inj i j hij hj

/-! ### graphs -/
/-- An edge between two of p points. -/
structure Ed (p e : Int) : Prop where
  a0 : 0 ≤ e.tdiv 10
  ab : e.tdiv 10 < e.tmod 10
  bp : e.tmod 10 < p
def edB (p e : Int) : Bool := decide (0 ≤ e.tdiv 10) && (decide (e.tdiv 10 < e.tmod 10) && decide (e.tmod 10 < p))
theorem edB_true {p e : Int} : edB p e = true ↔ Ed p e := by
  unfold edB
  simp only [Bool.and_eq_true, decide_eq_true_eq]
  exact ⟨fun ⟨a, b, c⟩ => ⟨a, b, c⟩, fun h => ⟨h.a0, h.ab, h.bp⟩⟩
theorem edB_false {p e : Int} (h : ¬ Ed p e) : edB p e = false := by
  cases hb : edB p e
  · rfl
  · exact absurd (edB_true.1 hb) h
theorem ten_parts (e : Int) : e = 10 * e.tdiv 10 + e.tmod 10 := by
  have := Int.mul_tdiv_add_tmod e 10; omega
theorem Ed.pos {p e : Int} (h : Ed p e) : 0 < e := by
  have := ten_parts e
  have := h.a0
  have := h.ab
  omega
theorem Ed.lt {p e : Int} (h : Ed p e) (h5 : p ≤ 5) : e < 50 := by
  have := ten_parts e
  have := h.ab
  have := h.bp
  omega
theorem two_parts {a b : Int} (a0 : 0 ≤ a) (b0 : 0 ≤ b) (b9 : b < 10) : (10 * a + b).tdiv 10 = a ∧ (10 * a + b).tmod 10 = b := by
  rw [Int.tdiv_eq_ediv_of_nonneg (by omega), Int.tmod_eq_emod_of_nonneg (by omega)]
  omega
/-- In ascending order. -/
def Asc (es : List Int) : Prop := es.Pairwise (· < ·)
instance (es : List Int) : Decidable (Asc es) := inferInstanceAs (Decidable (es.Pairwise (· < ·)))
theorem asc_nth {es : List Int} : Asc es ↔ ∀ i j, i < j → j < es.length → nth es i < nth es j := pair_nth
theorem asc_next {es : List Int} : Asc es ↔ ∀ j, j + 1 < es.length → nth es j < nth es (j + 1) := by
  rw [asc_nth]
  constructor
  · intro h j hj; exact h j (j + 1) (by omega) hj
  · intro h i j hij hj
    obtain ⟨d, rfl⟩ : ∃ d, j = i + 1 + d := ⟨j - i - 1, by omega⟩
    clear hij
    induction d with
    | zero => exact h i hj
    | succ d ih =>
      have h1 := ih (by omega)
      have h2 := h (i + 1 + d) (by omega)
      have e : i + 1 + (d + 1) = i + 1 + d + 1 := by omega
      rw [e]; omega
/-- Ascending lists of the same numbers are the same. -/
theorem asc_ext {a b : List Int} (ha : Asc a) (hb : Asc b) (h : ∀ x, x ∈ a ↔ x ∈ b) : a = b := by
  have na : a.Nodup := ha.imp fun h => by omega
  have nb : b.Nodup := hb.imp fun h => by omega
  refine List.Perm.eq_of_pairwise (le := fun x y : Int => x ≤ y) (fun x y _ _ h1 h2 => Int.le_antisymm h1 h2) (ha.imp fun h => by omega) (hb.imp fun h => by omega) ((List.perm_ext_iff_of_nodup na nb).2 h)
/-- A graph of p points with the edges es. -/
structure Gk (p : Int) (es : List Int) : Prop where
  p1 : 1 ≤ p
  p5 : p ≤ 5
  ed : ∀ j, j < es.length → Ed p (nth es j)
  asc : Asc es
def gkB (p : Int) (es : List Int) : Bool := decide (1 ≤ p) && (decide (p ≤ 5) && (es.all (edB p) && decide (Asc es)))
theorem gkB_true {p : Int} {es : List Int} : gkB p es = true ↔ Gk p es := by
  unfold gkB
  simp only [Bool.and_eq_true, decide_eq_true_eq, List.all_eq_true]
  constructor
  · rintro ⟨h1, h2, h3, h4⟩
    exact ⟨h1, h2, fun j hj => edB_true.1 (h3 _ (nth_mem hj)), h4⟩
  · intro h
    refine ⟨h.p1, h.p5, fun x hx => ?_, h.asc⟩
    obtain ⟨j, hj, e⟩ := nth_of hx
    rw [← e]; exact edB_true.2 (h.ed j hj)
theorem gkB_false {p : Int} {es : List Int} (h : ¬ Gk p es) : gkB p es = false := by
  cases hb : gkB p es
  · rfl
  · exact absurd (gkB_true.1 hb) h
theorem Gk.mem {p : Int} {es : List Int} (h : Gk p es) {e : Int} (he : e ∈ es) : Ed p e := by
  obtain ⟨j, hj, x⟩ := nth_of he
  rw [← x]; exact h.ed j hj
theorem gk_mk {p : Int} {es : List Int} (h1 : 1 ≤ p) (h5 : p ≤ 5) (ha : Asc es) (hm : ∀ e, e ∈ es → Ed p e) : Gk p es := ⟨h1, h5, fun _ hj => hm _ (nth_mem hj), ha⟩
theorem Gk.tail {p e : Int} {es : List Int} (h : Gk p (e :: es)) : Gk p es := gk_mk h.p1 h.p5 (List.pairwise_cons.1 h.asc).2 fun _ hx => h.mem (List.mem_cons_of_mem _ hx)
/-- At most ten edges. -/
theorem Gk.few {p : Int} {es : List Int} (h : Gk p es) : es.length ≤ 50 := by
  have := nodup_le (a := es) (l := (List.range 50).map (fun k : Nat => (k : Int))) (h.asc.imp fun h => by omega) fun x hx => by
    have a := (h.mem hx).pos
    have b := (h.mem hx).lt h.p5
    exact List.mem_map.2 ⟨x.toNat, List.mem_range.2 (by omega), by omega⟩
  simpa using this

/-- The edge that an edge becomes. -/
def cde (o : List Int) (e : Int) : Int := 10 * min (app o (e.tdiv 10)) (app o (e.tmod 10)) + max (app o (e.tdiv 10)) (app o (e.tmod 10))
theorem cde_ed {o : List Int} {p e : Int} (ho : Od o p) (he : Ed p e) : Ed p (cde o e) ∧ (cde o e).tdiv 10 = min (app o (e.tdiv 10)) (app o (e.tmod 10)) ∧ (cde o e).tmod 10 = max (app o (e.tdiv 10)) (app o (e.tmod 10)) := by
  have h5 := ho.m5
  have ea := he.a0
  have eb := he.ab
  have ep := he.bp
  have ha := ho.at_ (x := e.tdiv 10) (by omega) (by omega)
  have hb := ho.at_ (x := e.tmod 10) (by omega) (by omega)
  have hne : app o (e.tdiv 10) ≠ app o (e.tmod 10) := fun h => by have := ho.at_inj (by omega) (by omega) (by omega) (by omega) h; omega
  obtain ⟨q1, q2⟩ := two_parts (a := min (app o (e.tdiv 10)) (app o (e.tmod 10))) (b := max (app o (e.tdiv 10)) (app o (e.tmod 10))) (by omega) (by omega) (by omega)
  unfold cde
  refine ⟨⟨by rw [q1]; omega, by rw [q1, q2]; omega, by rw [q2]; omega⟩, q1, q2⟩
/-- Moved twice is moved once. -/
theorem cde_cde {a b : List Int} {p e : Int} (ha : Od a p) (he : Ed p e) : cde b (cde a e) = cde (thn a b) e := by
  have h := cde_ed ha he
  have ea := he.a0
  have eb := he.ab
  have ep := he.bp
  have c1 := thn_app (b := b) ha (x := e.tdiv 10) (by omega) (by omega)
  have c2 := thn_app (b := b) ha (x := e.tmod 10) (by omega) (by omega)
  show 10 * min (app b ((cde a e).tdiv 10)) (app b ((cde a e).tmod 10)) + max (app b ((cde a e).tdiv 10)) (app b ((cde a e).tmod 10)) = 10 * min (app (thn a b) (e.tdiv 10)) (app (thn a b) (e.tmod 10)) + max (app (thn a b) (e.tdiv 10)) (app (thn a b) (e.tmod 10))
  rw [h.2.1, h.2.2, c1, c2]
  rcases Int.le_total (app a (e.tdiv 10)) (app a (e.tmod 10)) with c | c
  · rw [Int.min_eq_left c, Int.max_eq_right c]
  · rw [Int.min_eq_right c, Int.max_eq_left c, Int.min_comm, Int.max_comm]
theorem cde_idn {n : Nat} {e : Int} (he : Ed n e) : cde (idn n) e = e := by
  have ea := he.a0
  have eb := he.ab
  have ep := he.bp
  unfold cde
  rw [idn_app (by omega) (by omega), idn_app (by omega) (by omega), Int.min_eq_left (by omega), Int.max_eq_right (by omega)]
  exact (ten_parts e).symm
theorem cde_inj {o : List Int} {p e f : Int} (ho : Od o p) (he : Ed p e) (hf : Ed p f) (h : cde o e = cde o f) : e = f := by
  have hl := ho.len
  have h1 := cde_cde (b := bck o) ho he
  have h2 := cde_cde (b := bck o) ho hf
  rw [thn_bck ho] at h1 h2
  rw [cde_idn (by rw [hl]; exact he)] at h1
  rw [cde_idn (by rw [hl]; exact hf)] at h2
  rw [← h1, ← h2, h]

/-- The edges that become the edge c, of the first k, each as c. -/
def movIn (o es : List Int) (c : Int) : Nat → List Int
  | 0 => []
  | k + 1 => movIn o es c k ++ if cde o (nth es k) = c then [c] else []
def movTo (o es : List Int) : Nat → List Int
  | 0 => []
  | c + 1 => movTo o es c ++ movIn o es c es.length
/-- The edges, moved. -/
def mov (o es : List Int) : List Int := movTo o es 100
theorem movIn_mem {o es : List Int} {c x : Int} : ∀ {k : Nat}, x ∈ movIn o es c k ↔ x = c ∧ ∃ j, j < k ∧ cde o (nth es j) = c
  | 0 => by simp [movIn]
  | k + 1 => by
    rw [movIn, List.mem_append, movIn_mem]
    constructor
    · rintro (⟨h1, j, hj, e⟩ | h)
      · exact ⟨h1, j, by omega, e⟩
      · by_cases e : cde o (nth es k) = c
        · rw [if_pos e] at h; exact ⟨by simpa using h, k, by omega, e⟩
        · rw [if_neg e] at h; simp at h
    · rintro ⟨h1, j, hj, e⟩
      by_cases hjk : j < k
      · exact .inl ⟨h1, j, hjk, e⟩
      · obtain rfl : j = k := by omega
        right; rw [if_pos e]; simpa using h1
theorem movTo_mem {o es : List Int} {x : Int} : ∀ {n : Nat}, x ∈ movTo o es n ↔ ∃ c : Nat, c < n ∧ x = c ∧ ∃ j, j < es.length ∧ cde o (nth es j) = c
  | 0 => by simp [movTo]
  | n + 1 => by
    rw [movTo, List.mem_append, movTo_mem, movIn_mem]
    constructor
    · rintro (⟨c, hc, h⟩ | ⟨h1, h2⟩)
      · exact ⟨c, by omega, h⟩
      · exact ⟨n, by omega, h1, h2⟩
    · rintro ⟨c, hc, h1, h2⟩
      by_cases e : c < n
      · exact .inl ⟨c, e, h1, h2⟩
      · obtain rfl : c = n := by omega
        exact .inr ⟨h1, h2⟩
theorem mov_mem {o es : List Int} {p x : Int} (ho : Od o p) (hg : Gk p es) : x ∈ mov o es ↔ ∃ e, e ∈ es ∧ cde o e = x := by
  unfold mov
  rw [movTo_mem]
  constructor
  · rintro ⟨c, _, h1, j, hj, e⟩
    exact ⟨nth es j, nth_mem hj, by rw [e, h1]⟩
  · rintro ⟨e, he, hx⟩
    obtain ⟨j, hj, hje⟩ := nth_of he
    have hd := (cde_ed ho (hg.mem he)).1
    have a := hd.pos
    have b := hd.lt ho.m5
    exact ⟨x.toNat, by omega, by omega, j, hj, by rw [hje, hx]; omega⟩
/-- At most one edge becomes the edge c. -/
theorem movIn_few {o es : List Int} {c p : Int} (ho : Od o p) (hg : Gk p es) : ∀ {k : Nat}, k ≤ es.length → (movIn o es c k).length ≤ 1
  | 0, _ => by simp [movIn]
  | k + 1, hk => by
    rw [movIn]
    by_cases e : cde o (nth es k) = c
    · rw [if_pos e]
      have hn : movIn o es c k = [] := List.eq_nil_iff_forall_not_mem.2 fun _ hx => by
        obtain ⟨_, j, hj, e'⟩ := movIn_mem.1 hx
        have := cde_inj ho (hg.ed j (by omega)) (hg.ed k (by omega)) (by rw [e, e'])
        have := asc_nth.1 hg.asc j k hj (by omega)
        omega
      rw [hn]; simp
    · rw [if_neg e, List.append_nil]; exact movIn_few ho hg (by omega)
theorem movTo_asc {o es : List Int} {p : Int} (ho : Od o p) (hg : Gk p es) : ∀ n : Nat, Asc (movTo o es n)
  | 0 => List.Pairwise.nil
  | n + 1 => by
    rw [movTo]
    refine List.pairwise_append.2 ⟨movTo_asc ho hg n, ?_, fun x hx y hy => ?_⟩
    · have := movIn_few (c := n) ho hg (Nat.le_refl _)
      match h : movIn o es n es.length, this with
      | [], _ => exact List.Pairwise.nil
      | [x], _ => exact List.pairwise_singleton _ _
    · obtain ⟨c, hc, h1, _⟩ := movTo_mem.1 hx
      have := (movIn_mem.1 hy).1
      omega
theorem mov_asc {o es : List Int} {p : Int} (ho : Od o p) (hg : Gk p es) : Asc (mov o es) := movTo_asc ho hg 100
theorem mov_gk {o es : List Int} {p : Int} (ho : Od o p) (hg : Gk p es) : Gk p (mov o es) := gk_mk hg.p1 hg.p5 (mov_asc ho hg) fun x hx => by
  obtain ⟨e, he, h⟩ := (mov_mem ho hg).1 hx
  rw [← h]; exact (cde_ed ho (hg.mem he)).1
/-- P31: moved again it is moved by both orders, one behind the other. -/
theorem mov_mov {a b es : List Int} {p : Int} (ha : Od a p) (hb : Od b p) (hg : Gk p es) : mov b (mov a es) = mov (thn a b) es := by
  refine asc_ext (mov_asc hb (mov_gk ha hg)) (mov_asc (thn_od ha hb) hg) fun x => ?_
  rw [mov_mem hb (mov_gk ha hg), mov_mem (thn_od ha hb) hg]
  constructor
  · rintro ⟨e, he, h⟩
    obtain ⟨f, hf, h'⟩ := (mov_mem ha hg).1 he
    exact ⟨f, hf, by rw [← cde_cde ha (hg.mem hf), h', h]⟩
  · rintro ⟨f, hf, h⟩
    exact ⟨cde a f, (mov_mem ha hg).2 ⟨f, hf, rfl⟩, by rw [cde_cde ha (hg.mem hf), h]⟩
theorem mov_idn {n : Nat} {es : List Int} (hg : Gk n es) : mov (idn n) es = es := by
  have hi : Od (idn n) n := idn_od (by have := hg.p1; omega) (by have := hg.p5; omega)
  refine asc_ext (mov_asc hi hg) hg.asc fun x => ?_
  rw [mov_mem hi hg]
  constructor
  · rintro ⟨e, he, h⟩; rw [cde_idn (hg.mem he)] at h; rw [← h]; exact he
  · intro hx; exact ⟨x, hx, cde_idn (hg.mem hx)⟩
theorem mov_bck {o es : List Int} {p : Int} (ho : Od o p) (hg : Gk p es) : mov (bck o) (mov o es) = es := by
  have hl := ho.len
  rw [mov_mov ho (bck_od ho) hg, thn_bck ho]
  exact mov_idn (by rw [hl]; exact hg)
theorem mov_len {o es : List Int} {p : Int} (ho : Od o p) (hg : Gk p es) : (mov o es).length = es.length := by
  have h1 : ∀ {o es : List Int}, Od o p → Gk p es → es.length ≤ (mov o es).length := fun {o es} ho hg => by
    have hn : (es.map (cde o)).Nodup := by
      have : es.Nodup := hg.asc.imp fun h => by omega
      refine List.pairwise_map.2 ((List.pairwise_iff_getElem.2 fun i j hi hj hij => ?_))
      intro e
      have := cde_inj ho (hg.mem (List.getElem_mem hi)) (hg.mem (List.getElem_mem hj)) e
      have h := asc_nth.1 hg.asc i j hij hj
      rw [nth_get hi, nth_get hj] at h
      omega
    have := nodup_le (l := mov o es) hn fun x hx => by
      obtain ⟨e, he, h⟩ := List.mem_map.1 hx
      exact (mov_mem ho hg).2 ⟨e, he, h⟩
    simpa using this
  have a := h1 ho hg
  have b := h1 (bck_od ho) (mov_gk ho hg)
  rw [mov_bck ho hg] at b
  omega

/-! ### all orders -/
/-- Rows of numbers in order: the lesser number at the first difference first. -/
def RowLt (a b : List Int) : Prop := ∃ i, (∀ j, j < i → nth a j = nth b j) ∧ nth a i < nth b i
theorem RowLt.ne {a b : List Int} (h : RowLt a b) : a ≠ b := by
  rintro rfl
  obtain ⟨i, _, h⟩ := h
  omega
theorem RowLt.trans {a b c : List Int} (h : RowLt a b) (k : RowLt b c) : RowLt a c := by
  obtain ⟨i, h1, h2⟩ := h
  obtain ⟨j, k1, k2⟩ := k
  rcases Nat.lt_trichotomy i j with e | e | e
  · exact ⟨i, fun l hl => (h1 l hl).trans (k1 l (by omega)), by rw [← k1 i e]; exact h2⟩
  · subst e; exact ⟨i, fun l hl => (h1 l hl).trans (k1 l hl), by omega⟩
  · exact ⟨j, fun l hl => (h1 l (by omega)).trans (k1 l hl), by rw [h1 j e]; exact k2⟩
theorem RowLt.asymm {a b : List Int} (h : RowLt a b) (k : RowLt b a) : False := (h.trans k).ne rfl
def fits (xs : List Int) (p : Nat) : Bool := xs.all fun x => decide (x ≠ p)
def nxtIn (xs : List Int) : Nat → List (List Int)
  | 0 => []
  | p + 1 => nxtIn xs p ++ if fits xs p then [xs ++ [(p : Int)]] else []
def nxtTo (m : Nat) (xss : List (List Int)) : Nat → List (List Int)
  | 0 => []
  | j + 1 => nxtTo m xss j ++ nxtIn (row xss j) m
/-- All rows of k different numbers from 0 on and less than m. -/
def ordTo (m : Nat) : Nat → List (List Int)
  | 0 => [[]]
  | k + 1 => nxtTo m (ordTo m k) (ordTo m k).length
/-- All orders of m points. -/
def ords (m : Nat) : List (List Int) := ordTo m m
theorem fits_true {xs : List Int} {p : Nat} : fits xs p = true ↔ ((p : Nat) : Int) ∉ xs := by
  unfold fits
  rw [List.all_eq_true]
  constructor
  · intro h hp; have := h _ hp; simp at this
  · intro h x hx
    rw [decide_eq_true_eq]
    rintro rfl; exact h hx
theorem nxtIn_mem {xs ys : List Int} : ∀ {n : Nat}, ys ∈ nxtIn xs n ↔ ∃ p : Nat, p < n ∧ ((p : Nat) : Int) ∉ xs ∧ ys = xs ++ [(p : Int)]
  | 0 => by simp [nxtIn]
  | n + 1 => by
    rw [nxtIn, List.mem_append, nxtIn_mem]
    constructor
    · rintro (⟨p, hp, h⟩ | h)
      · exact ⟨p, by omega, h⟩
      · by_cases e : fits xs n = true
        · rw [if_pos e] at h; exact ⟨n, by omega, fits_true.1 e, by simpa using h⟩
        · rw [if_neg e] at h; simp at h
    · rintro ⟨p, hp, h1, h2⟩
      by_cases e : p < n
      · exact .inl ⟨p, e, h1, h2⟩
      · obtain rfl : p = n := by omega
        right; rw [if_pos (fits_true.2 h1)]; simpa using h2
theorem nxtTo_mem {m : Nat} {xss : List (List Int)} {ys : List Int} : ∀ {n : Nat}, n ≤ xss.length → (ys ∈ nxtTo m xss n ↔ ∃ j, j < n ∧ ∃ p : Nat, p < m ∧ ((p : Nat) : Int) ∉ row xss j ∧ ys = row xss j ++ [(p : Int)])
  | 0, _ => by simp [nxtTo]
  | n + 1, hn => by
    rw [nxtTo, List.mem_append, nxtTo_mem (by omega), nxtIn_mem]
    constructor
    · rintro (⟨j, hj, h⟩ | h)
      · exact ⟨j, by omega, h⟩
      · exact ⟨n, by omega, h⟩
    · rintro ⟨j, hj, h⟩
      by_cases e : j < n
      · exact .inl ⟨j, e, h⟩
      · obtain rfl : j = n := by omega
        exact .inr h
theorem ordTo_mem {m : Nat} : ∀ {k : Nat} {ys : List Int}, ys ∈ ordTo m k ↔ ys.length = k ∧ (∀ y, y ∈ ys → 0 ≤ y ∧ y < m) ∧ ys.Nodup
  | 0, ys => by
    rw [ordTo, List.mem_singleton]
    constructor
    · rintro rfl; exact ⟨rfl, fun y hy => by simp at hy, List.nodup_nil⟩
    · rintro ⟨h, _⟩; exact List.length_eq_zero_iff.1 h
  | k + 1, ys => by
    rw [ordTo, nxtTo_mem (Nat.le_refl _)]
    constructor
    · rintro ⟨j, hj, p, hp, hn, rfl⟩
      obtain ⟨h1, h2, h3⟩ := ordTo_mem.1 (row_mem hj)
      refine ⟨by rw [List.length_append, h1]; rfl, fun y hy => ?_, List.nodup_append.2 ⟨h3, by simp, fun x hx y hy => ?_⟩⟩
      · rcases List.mem_append.1 hy with hy | hy
        · exact h2 y hy
        · simp at hy; omega
      · simp at hy; rintro rfl; rw [hy] at hx; exact hn hx
    · rintro ⟨h1, h2, h3⟩
      obtain ⟨xs, y, rfl⟩ : ∃ xs y, ys = xs ++ [y] := by
        refine ⟨ys.dropLast, ys.getLast (by intro e; rw [e] at h1; simp at h1), (List.dropLast_concat_getLast _).symm⟩
      rw [List.nodup_append] at h3
      have hy := h2 y (by simp)
      have hx : xs ∈ ordTo m k := ordTo_mem.2 ⟨by simp at h1; omega, fun z hz => h2 z (by simp [hz]), h3.1⟩
      obtain ⟨j, hj, e⟩ := row_of hx
      refine ⟨j, hj, y.toNat, by omega, ?_, ?_⟩
      · rw [e]
        intro hin
        exact h3.2.2 _ hin y (by simp) (by omega)
      · rw [e, show ((y.toNat : Nat) : Int) = y by omega]
theorem ords_mem {m : Nat} (h1 : 1 ≤ m) (h5 : m ≤ 5) {ys : List Int} : ys ∈ ords m ↔ Od ys m := by
  unfold ords
  rw [ordTo_mem]
  constructor
  · rintro ⟨a, b, c⟩
    exact ⟨by rw [a], by omega, by omega, fun j hj => b _ (nth_mem hj), fun i j hij hj => pair_nth.1 c i j hij hj⟩
  · intro h
    have hl := h.len
    refine ⟨by omega, fun y hy => ?_, pair_nth.2 h.inj⟩
    obtain ⟨j, hj, e⟩ := nth_of hy
    rw [← e]; exact h.bd j hj
theorem nth_left {xs ys : List Int} {j : Nat} (h : j < xs.length) : nth (xs ++ ys) j = nth xs j := by
  unfold nth; rw [List.getD_eq_getElem?_getD, List.getD_eq_getElem?_getD, List.getElem?_append_left h]
theorem RowLt.more {a b : List Int} {x y : Int} (hl : a.length = b.length) (h : RowLt a b) : RowLt (a ++ [x]) (b ++ [y]) := by
  obtain ⟨i, h1, h2⟩ := h
  have hi : i < a.length := Nat.lt_of_not_le fun hc => by
    have e1 : nth a i = 0 := by unfold nth; rw [List.getD_eq_getElem?_getD, List.getElem?_eq_none hc]; rfl
    have e2 : nth b i = 0 := by unfold nth; rw [List.getD_eq_getElem?_getD, List.getElem?_eq_none (by omega)]; rfl
    omega
  refine ⟨i, fun j hj => ?_, ?_⟩
  · rw [nth_left (by omega), nth_left (by omega)]; exact h1 j hj
  · rw [nth_left hi, nth_left (by omega)]; exact h2
theorem rowLt_last {xs : List Int} {x y : Int} (h : x < y) : RowLt (xs ++ [x]) (xs ++ [y]) :=
  ⟨xs.length, fun j hj => by rw [nth_left hj, nth_left hj], by rw [nth_app, nth_app]; simpa using h⟩
theorem nxtIn_asc (xs : List Int) : ∀ n, (nxtIn xs n).Pairwise RowLt
  | 0 => List.Pairwise.nil
  | n + 1 => by
    rw [nxtIn]
    refine List.pairwise_append.2 ⟨nxtIn_asc xs n, ?_, fun a ha b hb => ?_⟩
    · split
      · exact List.pairwise_singleton _ _
      · exact List.Pairwise.nil
    · obtain ⟨p, hp, _, e⟩ := nxtIn_mem.1 ha
      by_cases h : fits xs n = true
      · rw [if_pos h] at hb
        simp at hb
        rw [e, hb]; exact rowLt_last (by omega)
      · rw [if_neg h] at hb; simp at hb
theorem row_pair {r : List Int → List Int → Prop} {xss : List (List Int)} : xss.Pairwise r ↔ ∀ i j, i < j → j < xss.length → r (row xss i) (row xss j) := by
  rw [List.pairwise_iff_getElem]
  constructor
  · intro h i j hij hj
    have := h i j (by omega) hj hij
    rwa [← row_get, ← row_get] at this
  · intro h i j hi hj hij
    have := h i j hij hj
    rwa [row_get hi, row_get hj] at this
theorem nxtTo_asc {m : Nat} {xss : List (List Int)} {k : Nat} (hx : xss.Pairwise RowLt) (hl : ∀ j, j < xss.length → (row xss j).length = k) : ∀ n, n ≤ xss.length → (nxtTo m xss n).Pairwise RowLt
  | 0, _ => List.Pairwise.nil
  | n + 1, hn => by
    rw [nxtTo]
    refine List.pairwise_append.2 ⟨nxtTo_asc hx hl n (by omega), nxtIn_asc _ _, fun a ha b hb => ?_⟩
    obtain ⟨j, hj, p, _, _, e⟩ := (nxtTo_mem (by omega)).1 ha
    obtain ⟨q, _, _, e'⟩ := nxtIn_mem.1 hb
    rw [e, e']
    exact (row_pair.1 hx j n hj (by omega)).more (by rw [hl j (by omega), hl n (by omega)])
theorem ordTo_asc (m : Nat) : ∀ k, (ordTo m k).Pairwise RowLt
  | 0 => List.pairwise_singleton _ _
  | k + 1 => nxtTo_asc (ordTo_asc m k) (k := k) (fun _ hj => (ordTo_mem.1 (row_mem hj)).1) _ (Nat.le_refl _)
theorem ords_asc (m : Nat) : (ords m).Pairwise RowLt := ordTo_asc m m
/-- Lists of rows in order with the same rows are the same. -/
theorem rows_ext {a b : List (List Int)} (ha : a.Pairwise RowLt) (hb : b.Pairwise RowLt) (h : ∀ x, x ∈ a ↔ x ∈ b) : a = b := by
  have na : a.Nodup := ha.imp fun h => h.ne
  have nb : b.Nodup := hb.imp fun h => h.ne
  exact List.Perm.eq_of_pairwise (le := RowLt) (fun x y _ _ h1 h2 => (h1.asymm h2).elim) ha hb ((List.perm_ext_iff_of_nodup na nb).2 h)

/-! ### orders between two graphs -/
theorem solTo_mem {c : List Int → Bool} {xss : List (List Int)} {y : List Int} : ∀ {k : Nat}, k ≤ xss.length → (y ∈ solTo c xss k ↔ ∃ i, i < k ∧ y = row xss i ∧ c y = true)
  | 0, _ => by simp [solTo]
  | k + 1, hk => by
    have ih := solTo_mem (c := c) (xss := xss) (y := y) (k := k) (by omega)
    cases hc : c (row xss k)
    · rw [solTo_no hc, ih]
      constructor
      · rintro ⟨i, hi, h⟩; exact ⟨i, by omega, h⟩
      · rintro ⟨i, hi, h1, h2⟩
        by_cases e : i < k
        · exact ⟨i, e, h1, h2⟩
        · obtain rfl : i = k := by omega
          rw [h1, hc] at h2; cases h2
    · rw [solTo_yes hc, List.mem_append, ih]
      constructor
      · rintro (⟨i, hi, h⟩ | h)
        · exact ⟨i, by omega, h⟩
        · have : y = row xss k := by simpa using h
          exact ⟨k, by omega, this, by rw [this]; exact hc⟩
      · rintro ⟨i, hi, h1, h2⟩
        by_cases e : i < k
        · exact .inl ⟨i, e, h1, h2⟩
        · obtain rfl : i = k := by omega
          exact .inr (by simpa using h1)
theorem solTo_pair {r : List Int → List Int → Prop} {c : List Int → Bool} {xss : List (List Int)} (h : xss.Pairwise r) : ∀ {k : Nat}, k ≤ xss.length → (solTo c xss k).Pairwise r
  | 0, _ => List.Pairwise.nil
  | k + 1, hk => by
    cases hc : c (row xss k)
    · rw [solTo_no hc]; exact solTo_pair h (by omega)
    · rw [solTo_yes hc]
      refine List.pairwise_append.2 ⟨solTo_pair h (by omega), List.pairwise_singleton _ _, fun a ha b hb => ?_⟩
      obtain ⟨i, hi, e, _⟩ := (solTo_mem (by omega)).1 ha
      have : b = row xss k := by simpa using hb
      rw [e, this]; exact row_pair.1 h i k hi (by omega)
def leads (g h : List Int) (x : List Int) : Bool := sameB (mov x g) h
def btwL (p : Int) (g h : List Int) : List (List Int) := solTo (leads g h) (ords p.toNat) (ords p.toNat).length
def btB (p : Int) (g : List Int) (q : Int) (h : List Int) : Bool := gkB p g && (gkB q h && decide (p = q))
/-- OrdersBetween. -/
def btw (p : Int) (g : List Int) (q : Int) (h : List Int) : List (List Int) := if btB p g q h then btwL p g h else []
theorem btB_true {p q : Int} {g h : List Int} : btB p g q h = true ↔ Gk p g ∧ Gk q h ∧ p = q := by
  unfold btB; simp only [Bool.and_eq_true, decide_eq_true_eq, gkB_true]
theorem btw_yes {p q : Int} {g h : List Int} (k : btB p g q h = true) : btw p g q h = btwL p g h := by simp [btw, k]
theorem btw_no {p q : Int} {g h : List Int} (k : btB p g q h = false) : btw p g q h = [] := by simp [btw, k]
theorem leads_true {g h x : List Int} : leads g h x = true ↔ mov x g = h := by
  unfold leads
  exact ⟨fun h => of_decide_eq_true h, fun e => by rw [e, sameB_refl]⟩
theorem btwL_mem {p : Int} {g h x : List Int} (p1 : 1 ≤ p) (p5 : p ≤ 5) : x ∈ btwL p g h ↔ Od x p ∧ mov x g = h := by
  unfold btwL
  rw [solTo_mem (Nat.le_refl _)]
  have hm := ords_mem (m := p.toNat) (by omega) (by omega) (ys := x)
  rw [show ((p.toNat : Nat) : Int) = p by omega] at hm
  constructor
  · rintro ⟨i, hi, e, hc⟩
    exact ⟨hm.1 (by rw [e]; exact row_mem hi), leads_true.1 hc⟩
  · rintro ⟨h1, h2⟩
    obtain ⟨i, hi, e⟩ := row_of (hm.2 h1)
    exact ⟨i, hi, e.symm, leads_true.2 h2⟩
theorem btwL_asc (p : Int) (g h : List Int) : (btwL p g h).Pairwise RowLt := solTo_pair (ords_asc _) (Nat.le_refl _)
theorem btw_mem {p q : Int} {g h x : List Int} : x ∈ btw p g q h ↔ btB p g q h = true ∧ Od x p ∧ mov x g = h := by
  cases k : btB p g q h
  · rw [btw_no k]; simp
  · rw [btw_yes k, btwL_mem (btB_true.1 k).1.p1 (btB_true.1 k).1.p5]; simp
theorem btw_asc (p : Int) (g : List Int) (q : Int) (h : List Int) : (btw p g q h).Pairwise RowLt := by
  cases k : btB p g q h
  · rw [btw_no k]; exact List.Pairwise.nil
  · rw [btw_yes k]; exact btwL_asc _ _ _
theorem btw_nodup (p : Int) (g : List Int) (q : Int) (h : List Int) : (btw p g q h).Nodup := (btw_asc p g q h).imp fun h => h.ne
/-- As many, by a change that is undone. -/
theorem map_le {α : Type} [DecidableEq α] {a b : List α} (f f' : α → α) (hn : a.Nodup) (h : ∀ x, x ∈ a → f x ∈ b ∧ f' (f x) = x) : a.length ≤ b.length := by
  have : (a.map f).Nodup := List.pairwise_map.2 (List.pairwise_iff_getElem.2 fun i j hi hj hij e => by
    have e1 := (h _ (List.getElem_mem hi)).2
    have e2 := (h _ (List.getElem_mem hj)).2
    rw [e, e2] at e1
    exact (List.pairwise_iff_getElem.1 hn i j hi hj hij) e1.symm)
  have := nodup_le (l := b) this fun x hx => by
    obtain ⟨y, hy, e⟩ := List.mem_map.1 hx
    rw [← e]; exact (h y hy).1
  simpa using this
theorem btB_sym {p q : Int} {g h : List Int} (k : btB p g q h = true) : btB q h p g = true := by
  obtain ⟨a, b, c⟩ := btB_true.1 k; exact btB_true.2 ⟨b, a, c.symm⟩
theorem btB_self {p q : Int} {g h : List Int} (k : btB p g q h = true) : btB p g p g = true := by
  obtain ⟨a, b, c⟩ := btB_true.1 k; exact btB_true.2 ⟨a, a, rfl⟩
theorem btw_back_le (p : Int) (g : List Int) (q : Int) (h : List Int) : (btw p g q h).length ≤ (btw q h p g).length := by
  refine map_le bck bck (btw_nodup _ _ _ _) fun x hx => ?_
  obtain ⟨k, ho, e⟩ := btw_mem.1 hx
  obtain ⟨a, b, c⟩ := btB_true.1 k
  exact ⟨btw_mem.2 ⟨btB_sym k, by rw [← c]; exact bck_od ho, by rw [← e]; exact mov_bck ho a⟩, bck_bck ho⟩
/-- As many lead back. -/
theorem btw_back (p : Int) (g : List Int) (q : Int) (h : List Int) : (btw p g q h).length = (btw q h p g).length := Nat.le_antisymm (btw_back_le _ _ _ _) (btw_back_le _ _ _ _)
/-- None, or as many as lead the first one to itself. -/
theorem btw_self {p q : Int} {g h : List Int} (hne : 0 < (btw p g q h).length) : (btw p g q h).length = (btw p g p g).length := by
  obtain ⟨x0, hx0⟩ : ∃ x, x ∈ btw p g q h := ⟨_, row_mem hne⟩
  obtain ⟨k, o0, e0⟩ := btw_mem.1 hx0
  obtain ⟨a, b, c⟩ := btB_true.1 k
  have ob := bck_od o0
  have hl0 := o0.len
  refine Nat.le_antisymm (map_le (fun x => thn x (bck x0)) (fun y => thn y x0) (btw_nodup _ _ _ _) fun x hx => ?_) (map_le (fun y => thn y x0) (fun x => thn x (bck x0)) (btw_nodup _ _ _ _) fun y hy => ?_)
  · obtain ⟨_, ox, ex⟩ := btw_mem.1 hx
    have hl := ox.len
    refine ⟨btw_mem.2 ⟨btB_self k, thn_od ox ob, ?_⟩, ?_⟩
    · rw [← mov_mov ox ob a, ex, ← e0]; exact mov_bck o0 a
    · show thn (thn x (bck x0)) x0 = x
      rw [thn_assoc ox ob o0]
      have : thn (bck x0) x0 = idn x.length := by
        have := thn_bck ob
        rw [bck_bck o0, bck_len] at this
        rw [this, show x0.length = x.length by omega]
      rw [this]; exact thn_idn ox
  · obtain ⟨_, oy, ey⟩ := btw_mem.1 hy
    have hl := oy.len
    refine ⟨btw_mem.2 ⟨k, thn_od oy o0, ?_⟩, ?_⟩
    · rw [← mov_mov oy o0 a, ey, e0]
    · show thn (thn y x0) (bck x0) = y
      rw [thn_assoc oy o0 ob, thn_bck o0, show x0.length = y.length by omega]
      exact thn_idn oy

/-! ### talks on two graphs -/
def frm (ask : Int) (g h : List Int) : List Int := if ask = 1 then h else g
theorem frm_gk {p ask : Int} {g h : List Int} (hg : Gk p g) (hh : Gk p h) : Gk p (frm ask g h) := by unfold frm; split <;> assumption
def mdT (p : Int) (g : List Int) (q : Int) (h : List Int) (ask : Int) (tell : List Int) : Bool := btB p g q h && (odB tell p && (decide (0 ≤ ask) && decide (ask ≤ 1)))
structure MdT (p : Int) (g : List Int) (q : Int) (h : List Int) (ask : Int) (tell : List Int) : Prop where
  gg : Gk p g
  gh : Gk q h
  e : p = q
  o : Od tell p
  a0 : 0 ≤ ask
  a1 : ask ≤ 1
theorem mdT_true {p q ask : Int} {g h tell : List Int} : mdT p g q h ask tell = true ↔ MdT p g q h ask tell := by
  unfold mdT; simp only [Bool.and_eq_true, decide_eq_true_eq, btB_true, odB_true]
  exact ⟨fun ⟨⟨a, b, c⟩, d, e, f⟩ => ⟨a, b, c, d, e, f⟩, fun k => ⟨⟨k.gg, k.gh, k.e⟩, k.o, k.a0, k.a1⟩⟩
theorem mdT_false {p q ask : Int} {g h tell : List Int} (k : ¬ MdT p g q h ask tell) : mdT p g q h ask tell = false := by
  cases hb : mdT p g q h ask tell
  · rfl
  · exact absurd (mdT_true.1 hb) k
/-- TurnOk: a talk that is right is the one that is made up with its question and its order. -/
def tkT (p : Int) (g : List Int) (q : Int) (h : List Int) (sp : Int) (se : List Int) (ask : Int) (tell : List Int) : Bool := mdT p g q h ask tell && (decide (sp = p) && sameB (mov tell (frm ask g h)) se)
theorem tkT_true {p q sp ask : Int} {g h se tell : List Int} : tkT p g q h sp se ask tell = true ↔ MdT p g q h ask tell ∧ sp = p ∧ mov tell (frm ask g h) = se := by
  unfold tkT; simp only [Bool.and_eq_true, decide_eq_true_eq, mdT_true]
  exact ⟨fun ⟨a, b, c⟩ => ⟨a, b, of_decide_eq_true c⟩, fun ⟨a, b, c⟩ => ⟨a, b, by rw [c, sameB_refl]⟩⟩
theorem tkT_false {p q sp ask : Int} {g h se tell : List Int} (k : ¬ (MdT p g q h ask tell ∧ sp = p ∧ mov tell (frm ask g h) = se)) : tkT p g q h sp se ask tell = false := by
  cases hb : tkT p g q h sp se ask tell
  · rfl
  · exact absurd (tkT_true.1 hb) k
structure OfT (p : Int) (g : List Int) (q : Int) (h known further : List Int) (ask : Int) : Prop where
  gg : Gk p g
  gh : Gk q h
  e : p = q
  ok : Od known p
  of : Od further p
  a0 : 0 ≤ ask
  a1 : ask ≤ 1
  lead : mov known g = h
def ofT (p : Int) (g : List Int) (q : Int) (h known further : List Int) (ask : Int) : Bool := btB p g q h && (odB known p && (odB further p && (decide (0 ≤ ask) && (decide (ask ≤ 1) && leads g h known))))
theorem ofT_true {p q ask : Int} {g h known further : List Int} : ofT p g q h known further ask = true ↔ OfT p g q h known further ask := by
  unfold ofT; simp only [Bool.and_eq_true, decide_eq_true_eq, btB_true, odB_true, leads_true]
  exact ⟨fun ⟨⟨a, b, c⟩, d, e, f, i, j⟩ => ⟨a, b, c, d, e, f, i, j⟩, fun k => ⟨⟨k.gg, k.gh, k.e⟩, k.ok, k.of, k.a0, k.a1, k.lead⟩⟩
theorem ofT_false {p q ask : Int} {g h known further : List Int} (k : ¬ OfT p g q h known further ask) : ofT p g q h known further ask = false := by
  cases hb : ofT p g q h known further ask
  · rfl
  · exact absurd (ofT_true.1 hb) k
/-- The order that is told. -/
def toldT (known further : List Int) (ask : Int) : List Int := if ask = 1 then thn (bck known) further else further
theorem OfT.told {p q ask : Int} {g h known further : List Int} (k : OfT p g q h known further ask) : Od (toldT known further ask) p := by
  unfold toldT; split
  · exact thn_od (bck_od k.ok) k.of
  · exact k.of
/-- P34: true talks are right. -/
theorem OfT.right {p q ask : Int} {g h known further : List Int} (k : OfT p g q h known further ask) : tkT p g q h p (mov further g) ask (toldT known further ask) = true := by
  refine tkT_true.2 ⟨⟨k.gg, k.gh, k.e, k.told, k.a0, k.a1⟩, rfl, ?_⟩
  unfold toldT frm
  by_cases e : ask = 1
  · rw [if_pos e, if_pos e]
    have hh : Gk p h := by rw [k.e]; exact k.gh
    rw [← mov_mov (bck_od k.ok) k.of hh, ← k.lead, mov_bck k.ok k.gg]
  · rw [if_neg e, if_neg e]
theorem OfT.other {p q ask : Int} {g h known further : List Int} (k : OfT p g q h known further ask) : OfT p g q h known further (1 - ask) :=
  ⟨k.gg, k.gh, k.e, k.ok, k.of, by have := k.a1; omega, by have := k.a0; omega, k.lead⟩
/-- P35: a talk that is made up is the true one with just one further order. -/
theorem MdT.true_ {p q ask : Int} {g h tell x : List Int} (k : MdT p g q h ask tell) (hx : x ∈ btw p g q h) :
    OfT p g q h x (if ask = 1 then thn x tell else tell) ask ∧ mov (if ask = 1 then thn x tell else tell) g = mov tell (frm ask g h) ∧ toldT x (if ask = 1 then thn x tell else tell) ask = tell := by
  obtain ⟨_, ox, ex⟩ := btw_mem.1 hx
  by_cases e : ask = 1
  · rw [if_pos e]
    refine ⟨⟨k.gg, k.gh, k.e, ox, thn_od ox k.o, k.a0, k.a1, ex⟩, ?_, ?_⟩
    · unfold frm; rw [if_pos e, ← mov_mov ox k.o k.gg, ex]
    · unfold toldT; rw [if_pos e]; exact bck_thn ox k.o
  · rw [if_neg e]
    refine ⟨⟨k.gg, k.gh, k.e, ox, k.o, k.a0, k.a1, ex⟩, ?_, ?_⟩
    · unfold frm; rw [if_neg e]
    · unfold toldT; rw [if_neg e]
/-- P36: both answers tell an order. -/
theorem told_from {p q : Int} {g h se t1 t2 : List Int} (k1 : MdT p g q h 0 t1) (k2 : MdT p g q h 1 t2) (e1 : mov t1 (frm 0 g h) = se) (e2 : mov t2 (frm 1 g h) = se) : Od (thn t1 (bck t2)) p ∧ mov (thn t1 (bck t2)) g = h := by
  have hh : Gk p h := by rw [k1.e]; exact k1.gh
  refine ⟨thn_od k1.o (bck_od k2.o), ?_⟩
  rw [← mov_mov k1.o (bck_od k2.o) k1.gg]
  have a1 : mov t1 g = se := e1
  have a2 : mov t2 h = se := e2
  rw [a1, ← a2]; exact mov_bck k2.o hh
end Go.Proofs.YtiinifcepcaonaaDoor

/- impl: entriesOk, TableOk. -/
namespace Go.Proofs.YtiinifcepcaonaaDoor
open Go.RowKit

theorem bit_yes {xs : List Int} (h : ∀ j, j < xs.length → nth xs j = 0 ∨ nth xs j = 1) : bitB xs = true := bitB_true.2 h
theorem bit_no {xs : List Int} {k : Nat} (hk : k < xs.length) (h : ¬ (nth xs k = 0 ∨ nth xs k = 1)) : bitB xs = false := by
  cases hb : bitB xs
  · rfl
  · exact absurd (bitB_true.1 hb k hk) h

/-- Rows of the same length as the first one, of entries 0 and 1, so far. -/
def TabTo (t : List (List Int)) (k : Nat) : Prop := ∀ j, j < k → (row t j).length = (row t 0).length ∧ bitB (row t j) = true

end Go.Proofs.YtiinifcepcaonaaDoor

/- spec.TableOk. -/
namespace Go.Proofs.YtiinifcepcaonaaDoor
open Go.RowKit

theorem l1In_tb {n a b : Int} {r : Bool} (h : (decide (a ≤ n) && decide (n ≤ b)) = r) (w : World) : Calls Tryd.prog 38 #[.int .i64 n, .int .i64 a, .int .i64 b] w fun e w' => e = .returned (.bool r) ∧ w = w' := by rw [← h]; exact l1In_any n a b w
/-- One walk of the text serves every order, at whatever class of worlds that the region's first world is of. -/
theorem wp_region_cls {P : Program} {C : World → Prop} {id : Nat} {Q : Exit → Act → World → Prop} {a : Act} {w : World} {l : List Oper} (hm : P.follows .mixedOrders = true) (hB : Region.lexB .any l.toArray = true) (hC : C w.drew)
    (h : wpQuiet P l.toArray C (fun a' => ∀ w', C w' → Q .normal a' w') l a) : (Code.region id l.toArray true).wp P Q a w :=
  wp_region_quiet (C := C) hm hB hC (by simpa using h)

/-- What the first k rounds of spec.TableOk have shown. -/
structure TsTo (t : List (List Int)) (k : Nat) : Prop where
  rs : TabTo t k
  u : 0 < k → 1 ≤ (row t 0).length ∧ (row t 0).length ≤ 8

end Go.Proofs.YtiinifcepcaonaaDoor
