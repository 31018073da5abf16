/- Plain mathematics of chapter 6: tables of what is taken, counted: no program. -/
import Derived.Test.YtipndddmjgjgpabDoorBPure
namespace Go.Proofs.YtipndddmjgjgpabDoor

/-- How many of the first k entries of a row are 1. -/
def oneTo (r : List Int) : Nat → Nat
  | 0 => 0
  | k + 1 => oneTo r k + if nth r k = 1 then 1 else 0
def ones (r : List Int) : Nat := oneTo r r.length
theorem oneTo_succ (r : List Int) (k : Nat) : oneTo r (k + 1) = oneTo r k + if nth r k = 1 then 1 else 0 := rfl
theorem oneTo_le (r : List Int) : ∀ k, oneTo r k ≤ k
  | 0 => Nat.le_refl _
  | k + 1 => by rw [oneTo_succ]; have := oneTo_le r k; split <;> omega
theorem ones_le (r : List Int) : ones r ≤ r.length := oneTo_le r _
theorem oneTo_mono (r : List Int) {j : Nat} : ∀ {k : Nat}, j ≤ k → oneTo r j ≤ oneTo r k
  | 0, h => by rw [Nat.le_zero.1 h]; exact Nat.le_refl _
  | k + 1, h => by
    by_cases e : j = k + 1
    · rw [e]; exact Nat.le_refl _
    · rw [oneTo_succ]; have := oneTo_mono r (j := j) (k := k) (by omega); omega
/-- Two entries that are 1 are at least two. -/
theorem ones_two {r : List Int} {i j n : Nat} (hij : i < j) (hj : j < n) (h1 : nth r i = 1) (h2 : nth r j = 1) : 2 ≤ oneTo r n := by
  have a := oneTo_mono r (j := i + 1) (k := j) (by omega)
  have b := oneTo_mono r (j := j + 1) (k := n) (by omega)
  rw [oneTo_succ, if_pos h1] at a
  rw [oneTo_succ, if_pos h2] at b
  omega
/-- One or none, if no two are 1. -/
theorem ones_one {r : List Int} : ∀ {n : Nat}, (∀ i j, i < j → j < n → nth r i = 1 → nth r j ≠ 1) → oneTo r n ≤ 1
  | 0, _ => by simp [oneTo]
  | n + 1, h => by
    rw [oneTo_succ]
    have ih := ones_one (r := r) (n := n) (fun i j a b => h i j a (by omega))
    by_cases e : nth r n = 1
    · rw [if_pos e]
      have hz : ∀ m, m ≤ n → oneTo r m = 0 := fun m => by
        induction m with
        | zero => intro _; rfl
        | succ m im =>
          intro hm
          rw [oneTo_succ, im (by omega), if_neg (fun h1 => h m n (by omega) (by omega) h1 e)]
      rw [hz n (Nat.le_refl _)]; omega
    · rw [if_neg e]; omega

/-- A table. -/
structure Tab (t : List (List Int)) : Prop where
  r1 : 1 ≤ t.length
  r2 : t.length ≤ 12
  a1 : 1 ≤ (row t 0).length
  a2 : (row t 0).length ≤ 8
  len : ∀ k, k < t.length → (row t k).length = (row t 0).length
  bit : ∀ k j, k < t.length → j < (row t k).length → nth (row t k) j = 0 ∨ nth (row t k) j = 1
def bitB (r : List Int) : Bool := r.all fun x => decide (0 ≤ x) && decide (x ≤ 1)
def tabB (t : List (List Int)) : Bool := decide (1 ≤ t.length) && (decide (t.length ≤ 12) && (decide (1 ≤ (row t 0).length) && (decide ((row t 0).length ≤ 8) && t.all fun r => decide (r.length = (row t 0).length) && bitB r)))
theorem bitB_true {r : List Int} : bitB r = true ↔ ∀ j, j < r.length → nth r j = 0 ∨ nth r j = 1 := by
  unfold bitB
  rw [List.all_eq_true]
  constructor
  · intro h j hj
    have := h _ (nth_mem hj)
    simp at this; omega
  · intro h x hx
    obtain ⟨j, hj, e⟩ := nth_of hx
    rw [← e]
    rcases h j hj with e | e <;> rw [e] <;> decide
theorem tabB_true {t : List (List Int)} : tabB t = true ↔ Tab t := by
  unfold tabB
  simp only [Bool.and_eq_true, decide_eq_true_eq, List.all_eq_true]
  constructor
  · rintro ⟨h1, h2, h3, h4, h5⟩
    refine ⟨h1, h2, h3, h4, fun k hk => (h5 _ (row_mem hk)).1, fun k j hk hj => bitB_true.1 (h5 _ (row_mem hk)).2 j hj⟩
  · intro h
    refine ⟨h.r1, h.r2, h.a1, h.a2, fun r hr => ?_⟩
    obtain ⟨k, hk, e⟩ := row_of hr
    rw [← e]
    exact ⟨h.len k hk, bitB_true.2 (h.bit k · hk)⟩
theorem tabB_false {t : List (List Int)} (h : ¬ Tab t) : tabB t = false := by
  cases hb : tabB t
  · rfl
  · exact absurd (tabB_true.1 hb) h

def takTo (t : List (List Int)) : Nat → Nat
  | 0 => 0
  | k + 1 => takTo t k + ones (row t k)
def tak (t : List (List Int)) : Nat := takTo t t.length
def paiTo (t : List (List Int)) : Nat → Nat
  | 0 => 0
  | k + 1 => paiTo t k + ones (row t k) * (ones (row t k) - 1)
def pai (t : List (List Int)) : Nat := paiTo t t.length
theorem takTo_le (t : List (List Int)) (n : Nat) (h : ∀ k, ones (row t k) ≤ n) : ∀ k, takTo t k ≤ k * n
  | 0 => by simp [takTo]
  | k + 1 => by
    have := takTo_le t n h k
    have := h k
    rw [takTo, Nat.succ_mul]; omega
/-- Rows with one at most have no more than there are rows. -/
theorem tak_few {t : List (List Int)} : ∀ {n : Nat}, (∀ k, k < n → ones (row t k) ≤ 1) → takTo t n ≤ n
  | 0, _ => Nat.le_refl _
  | n + 1, h => by
    have := tak_few (t := t) (n := n) (fun k hk => h k (by omega))
    have := h n (by omega)
    rw [takTo]; omega
theorem pai_none {t : List (List Int)} : ∀ {n : Nat}, (∀ k, k < n → ones (row t k) ≤ 1) → paiTo t n = 0
  | 0, _ => rfl
  | n + 1, h => by
    rw [paiTo, pai_none (t := t) (n := n) (fun k hk => h k (by omega))]
    have := h n (by omega)
    have : ones (row t n) = 0 ∨ ones (row t n) = 1 := by omega
    rcases this with e | e <;> rw [e]
theorem pai_some {t : List (List Int)} {k : Nat} (h : 2 ≤ ones (row t k)) : ∀ {n : Nat}, k < n → 0 < paiTo t n
  | n + 1, hk => by
    rw [paiTo]
    by_cases e : k = n
    · subst e
      have : 0 < ones (row t k) * (ones (row t k) - 1) := Nat.mul_pos (by omega) (by omega)
      omega
    · have := pai_some h (n := n) (by omega); omega

/-! ### pairs are at least so many -/
theorem sq_nonneg (x : Int) : 0 ≤ x * x := by
  by_cases h : 0 ≤ x
  · exact Int.mul_nonneg h h
  · have := Int.mul_nonneg (show 0 ≤ -x by omega) (show 0 ≤ -x by omega)
    rwa [Int.neg_mul_neg] at this
def sqTo (t : List (List Int)) : Nat → Int
  | 0 => 0
  | k + 1 => sqTo t k + (ones (row t k) : Int) * ones (row t k)
theorem sq_apart (t : List (List Int)) (r : Int) : ∀ n : Nat, 0 ≤ sqTo t n - 2 * r * takTo t n + n * (r * r)
  | 0 => by simp [sqTo, takTo]
  | n + 1 => by
    have ih := sq_apart t r n
    have h := sq_nonneg ((ones (row t n) : Int) - r)
    rw [sqTo, takTo, Int.natCast_add, Int.natCast_add]
    grind
theorem sq_all (t : List (List Int)) : ∀ n : Nat, (takTo t n : Int) * takTo t n ≤ n * sqTo t n
  | 0 => by simp [sqTo, takTo]
  | n + 1 => by
    have ih := sq_all t n
    have h := sq_apart t (ones (row t n)) n
    rw [sqTo, takTo, Int.natCast_add, Int.natCast_add]
    grind
theorem pai_sq (t : List (List Int)) : ∀ n : Nat, (paiTo t n : Int) + takTo t n = sqTo t n
  | 0 => rfl
  | n + 1 => by
    have ih := pai_sq t n
    rw [paiTo, takTo, sqTo, Int.natCast_add, Int.natCast_add, Int.natCast_mul]
    obtain ⟨o, ho⟩ : ∃ o, ones (row t n) = o := ⟨_, rfl⟩
    rw [ho]
    cases o with
    | zero => simp; omega
    | succ o =>
      rw [Nat.succ_sub_one, Int.natCast_succ]
      grind
/-- The rows times the pairs are at least the number taken, times this less the rows. -/
theorem pai_least (t : List (List Int)) (n : Nat) : (takTo t n : Int) * ((takTo t n : Int) - n) ≤ n * paiTo t n := by
  have h1 := sq_all t n
  have h2 := pai_sq t n
  rw [← h2] at h1
  grind

/-! ### two times -/
/-- The row of the products of two rows. -/
def mulIn (x : Int) (s : List Int) : Nat → List Int
  | 0 => []
  | h + 1 => mulIn x s h ++ [x * nth s h]
def mulTo (r s : List Int) : Nat → List Int
  | 0 => []
  | i + 1 => mulTo r s i ++ mulIn (nth r i) s s.length
theorem mulIn_len (x : Int) (s : List Int) : ∀ h, (mulIn x s h).length = h
  | 0 => rfl
  | h + 1 => by rw [mulIn, List.length_append, mulIn_len x s h]; rfl
theorem mulTo_len (r s : List Int) : ∀ i, (mulTo r s i).length = i * s.length
  | 0 => by simp [mulTo]
  | i + 1 => by rw [mulTo, List.length_append, mulTo_len r s i, mulIn_len, Nat.succ_mul]
/-- Entries that are 1, of a list. -/
def cnt1 (xs : List Int) : Nat := (xs.filter fun x => decide (x = 1)).length
theorem cnt1_app (xs ys : List Int) : cnt1 (xs ++ ys) = cnt1 xs + cnt1 ys := by unfold cnt1; rw [List.filter_append, List.length_append]
theorem cnt1_one (x : Int) : cnt1 [x] = if x = 1 then 1 else 0 := by
  unfold cnt1
  by_cases h : x = 1
  · simp [h]
  · simp [h]
theorem take_succ' {xs : List Int} {k : Nat} (hk : k < xs.length) : xs.take (k + 1) = xs.take k ++ [nth xs k] := by
  rw [List.take_add_one, List.getElem?_eq_getElem hk, nth_get hk]; rfl
theorem oneTo_cnt (r : List Int) : ∀ k, k ≤ r.length → oneTo r k = cnt1 (r.take k)
  | 0, _ => by simp [oneTo, cnt1]
  | k + 1, hk => by
    rw [oneTo_succ, oneTo_cnt r k (by omega), take_succ' (by omega), cnt1_app, cnt1_one]
theorem ones_cnt (r : List Int) : ones r = cnt1 r := by
  unfold ones; rw [oneTo_cnt r _ (Nat.le_refl _), List.take_length]
theorem mulIn_cnt {x : Int} (hx : x = 0 ∨ x = 1) (s : List Int) : ∀ h, h ≤ s.length → cnt1 (mulIn x s h) = if x = 1 then oneTo s h else 0
  | 0, _ => by simp [mulIn, cnt1, oneTo]
  | h + 1, hh => by
    rw [mulIn, cnt1_app, mulIn_cnt hx s h (by omega), cnt1_one, oneTo_succ]
    rcases hx with e | e
    · subst e; simp
    · subst e; simp
theorem mulTo_cnt {r s : List Int} (hr : ∀ j, j < r.length → nth r j = 0 ∨ nth r j = 1) : ∀ i, i ≤ r.length → cnt1 (mulTo r s i) = oneTo r i * ones s
  | 0, _ => by simp [mulTo, cnt1, oneTo]
  | i + 1, hi => by
    rw [mulTo, cnt1_app, mulTo_cnt hr i (by omega), mulIn_cnt (hr i (by omega)) s _ (Nat.le_refl _), oneTo_succ, Nat.add_mul]
    by_cases e : nth r i = 1
    · rw [if_pos e, if_pos e, Nat.one_mul]; rfl
    · rw [if_neg e, if_neg e, Nat.zero_mul]
def mulRow (r s : List Int) : List Int := mulTo r s r.length
theorem mulRow_ones {r s : List Int} (hr : ∀ j, j < r.length → nth r j = 0 ∨ nth r j = 1) : ones (mulRow r s) = ones r * ones s := by
  rw [ones_cnt, mulRow, mulTo_cnt hr _ (Nat.le_refl _)]; rfl
/-- For one row of the first table, the rows of the second one. -/
def timIn (r : List Int) (b : List (List Int)) : Nat → List (List Int)
  | 0 => []
  | j + 1 => timIn r b j ++ [mulRow r (row b j)]
def timTo (a b : List (List Int)) : Nat → List (List Int)
  | 0 => []
  | k + 1 => timTo a b k ++ timIn (row a k) b b.length
def timT (a b : List (List Int)) : List (List Int) := timTo a b a.length
theorem timIn_len (r : List Int) (b : List (List Int)) : ∀ j, (timIn r b j).length = j
  | 0 => rfl
  | j + 1 => by rw [timIn, List.length_append, timIn_len r b j]; rfl
theorem timTo_len (a b : List (List Int)) : ∀ k, (timTo a b k).length = k * b.length
  | 0 => by simp [timTo]
  | k + 1 => by rw [timTo, List.length_append, timTo_len a b k, timIn_len, Nat.succ_mul]
theorem timT_len (a b : List (List Int)) : (timT a b).length = a.length * b.length := timTo_len a b _
/-- How many are taken in a list of rows. -/
def takL (t : List (List Int)) : Nat := (t.map ones).sum
theorem takL_app (a b : List (List Int)) : takL (a ++ b) = takL a + takL b := by unfold takL; rw [List.map_append, List.sum_append]
theorem takL_one (r : List Int) : takL [r] = ones r := by unfold takL; simp
theorem takeR_succ {t : List (List Int)} {k : Nat} (hk : k < t.length) : t.take (k + 1) = t.take k ++ [row t k] := by
  rw [List.take_add_one, List.getElem?_eq_getElem hk, row_get hk]; rfl
theorem takTo_L (t : List (List Int)) : ∀ k, k ≤ t.length → takTo t k = takL (t.take k)
  | 0, _ => by simp [takTo, takL]
  | k + 1, hk => by rw [takTo, takTo_L t k (by omega), takeR_succ (by omega), takL_app, takL_one]
theorem tak_L (t : List (List Int)) : tak t = takL t := by unfold tak; rw [takTo_L t _ (Nat.le_refl _), List.take_length]
theorem timIn_tak {r : List Int} (hr : ∀ j, j < r.length → nth r j = 0 ∨ nth r j = 1) (b : List (List Int)) : ∀ j, takL (timIn r b j) = ones r * takTo b j
  | 0 => by simp [timIn, takL, takTo]
  | j + 1 => by rw [timIn, takL_app, timIn_tak hr b j, takL_one, mulRow_ones hr, takTo, Nat.mul_add]
theorem timTo_tak {a : List (List Int)} (ha : ∀ k, k < a.length → ∀ j, j < (row a k).length → nth (row a k) j = 0 ∨ nth (row a k) j = 1) (b : List (List Int)) : ∀ k, k ≤ a.length → takL (timTo a b k) = takTo a k * tak b
  | 0, _ => by simp [timTo, takL, takTo]
  | k + 1, hk => by rw [timTo, takL_app, timTo_tak ha b k (by omega), timIn_tak (ha k (by omega)), takTo, Nat.add_mul]; rfl
/-- As many are taken as in both, multiplied. -/
theorem tim_tak {a b : List (List Int)} (ha : Tab a) : tak (timT a b) = tak a * tak b := by
  rw [tak_L, timT, timTo_tak (fun k hk j hj => ha.bit k j hk hj) b _ (Nat.le_refl _)]; rfl

/-! ### the first row and the others -/
theorem tak_cons (r : List Int) (t : List (List Int)) : tak (r :: t) = ones r + tak t := by
  rw [tak_L, tak_L]; unfold takL; simp


/-! ### fractions in lowest terms -/
def low (u d : Nat) : Nat × Nat := (u / Nat.gcd u d, d / Nat.gcd u d)
theorem low_pos {u d : Nat} (hd : 0 < d) : 0 < (low u d).2 :=
  Nat.div_pos (Nat.gcd_le_right u hd) (Nat.gcd_pos_of_pos_right u hd)
theorem low_cop {u d : Nat} (hd : 0 < d) : Nat.gcd (low u d).1 (low u d).2 = 1 :=
  Nat.coprime_div_gcd_div_gcd (Nat.gcd_pos_of_pos_right u hd)
theorem low_up (u d : Nat) : (low u d).1 * Nat.gcd u d = u := Nat.div_mul_cancel (Nat.gcd_dvd_left u d)
theorem low_down (u d : Nat) : (low u d).2 * Nat.gcd u d = d := Nat.div_mul_cancel (Nat.gcd_dvd_right u d)
theorem low_same (u d : Nat) : (low u d).1 * d = u * (low u d).2 := by
  have a := low_up u d
  have b := low_down u d
  obtain ⟨g, hg⟩ : ∃ g, Nat.gcd u d = g := ⟨_, rfl⟩
  rw [hg] at a b
  obtain ⟨p, hp⟩ : ∃ p, low u d = p := ⟨_, rfl⟩
  rw [hp] at a b ⊢
  rw [← a, ← b]
  grind
/-- Two fractions in lowest terms that are as large are the same. -/
theorem cop_one {u d v e : Nat} (hd : 0 < d) (he : 0 < e) (hu : Nat.gcd u d = 1) (hv : Nat.gcd v e = 1) (h : u * e = v * d) : u = v ∧ d = e := by
  have h1 : d ∣ e := Nat.Coprime.dvd_of_dvd_mul_left (k := d) (m := u) (n := e) (by rw [Nat.Coprime, Nat.gcd_comm]; exact hu) ⟨v, by rw [h, Nat.mul_comm]⟩
  have h2 : e ∣ d := Nat.Coprime.dvd_of_dvd_mul_left (k := e) (m := v) (n := d) (by rw [Nat.Coprime, Nat.gcd_comm]; exact hv) ⟨u, by rw [← h, Nat.mul_comm]⟩
  have hde := Nat.dvd_antisymm h1 h2
  subst hde
  exact ⟨Nat.eq_of_mul_eq_mul_right hd h, rfl⟩
theorem low_is {u d v e : Nat} (hd : 0 < d) (he : 0 < e) (hv : Nat.gcd v e = 1) (h : u * e = v * d) : low u d = (v, e) := by
  have hs := low_same u d
  have hp := low_pos (u := u) hd
  have : (low u d).1 * e = v * (low u d).2 := by
    have : d * ((low u d).1 * e) = d * (v * (low u d).2) := by grind
    exact Nat.eq_of_mul_eq_mul_left hd this
  obtain ⟨a, b⟩ := cop_one hp he (low_cop hd) hv this
  exact Prod.ext a b
/-- As large, the same lowest terms. -/
theorem low_eq {u d v e : Nat} (hd : 0 < d) (he : 0 < e) (h : u * e = v * d) : low u d = low v e := by
  refine low_is hd (low_pos he) (low_cop he) ?_
  have hs := low_same v e
  have : e * (u * (low v e).2) = e * ((low v e).1 * d) := by grind
  exact Nat.eq_of_mul_eq_mul_left he this
/-- At most as large, and so in lowest terms. -/
theorem low_le {u d n : Nat} (hd : 0 < d) : (low u d).1 ≤ n * (low u d).2 ↔ u ≤ n * d := by
  have a := low_up u d
  have b := low_down u d
  have g := Nat.gcd_pos_of_pos_right u hd
  obtain ⟨G, hG⟩ : ∃ G, Nat.gcd u d = G := ⟨_, rfl⟩
  rw [hG] at a b g
  constructor
  · intro h
    have := Nat.mul_le_mul_right G h
    rw [a, Nat.mul_assoc, b] at this; exact this
  · intro h
    have h' : (low u d).1 * G ≤ n * (low u d).2 * G := by rw [a, Nat.mul_assoc, b]; exact h
    exact Nat.le_of_mul_le_mul_right h' g
theorem low_ge {u d n : Nat} (hd : 0 < d) : n * (low u d).2 ≤ (low u d).1 ↔ n * d ≤ u := by
  have a := low_up u d
  have b := low_down u d
  have g := Nat.gcd_pos_of_pos_right u hd
  obtain ⟨G, hG⟩ : ∃ G, Nat.gcd u d = G := ⟨_, rfl⟩
  rw [hG] at a b g
  constructor
  · intro h
    have := Nat.mul_le_mul_right G h
    rw [a, Nat.mul_assoc, b] at this; exact this
  · intro h
    have h' : n * (low u d).2 * G ≤ (low u d).1 * G := by rw [a, Nat.mul_assoc, b]; exact h
    exact Nat.le_of_mul_le_mul_right h' g

/-! ### asked again -/
/-- What a row adds, 420 times. -/
def agRow (m : Nat) : Nat := if 2 ≤ m then 420 * m / (m - 1) else 0
theorem agRow_le {m : Nat} (h : m ≤ 8) : agRow m ≤ 840 := by
  have : m = 0 ∨ m = 1 ∨ m = 2 ∨ m = 3 ∨ m = 4 ∨ m = 5 ∨ m = 6 ∨ m = 7 ∨ m = 8 := by omega
  rcases this with e | e | e | e | e | e | e | e | e <;> subst e <;> decide
theorem agRow_mul {m : Nat} (h : m ≤ 8) (h2 : 2 ≤ m) : agRow m * (m - 1) = 420 * m := by
  have : m = 2 ∨ m = 3 ∨ m = 4 ∨ m = 5 ∨ m = 6 ∨ m = 7 ∨ m = 8 := by omega
  rcases this with e | e | e | e | e | e | e <;> subst e <;> decide
theorem agRow_pos {m : Nat} (h : m ≤ 8) : 0 < agRow m ↔ 2 ≤ m := by
  have : m = 0 ∨ m = 1 ∨ m = 2 ∨ m = 3 ∨ m = 4 ∨ m = 5 ∨ m = 6 ∨ m = 7 ∨ m = 8 := by omega
  rcases this with e | e | e | e | e | e | e | e | e <;> subst e <;> decide
def agTo (t : List (List Int)) : Nat → Nat
  | 0 => 0
  | k + 1 => agTo t k + agRow (ones (row t k))
def ag (t : List (List Int)) : Nat := agTo t t.length
theorem agTo_le {t : List (List Int)} : ∀ {n : Nat}, (∀ k, k < n → ones (row t k) ≤ 8) → agTo t n ≤ 840 * n
  | 0, _ => Nat.le_refl _
  | n + 1, h => by
    have := agTo_le (t := t) (n := n) (fun k hk => h k (by omega))
    have := agRow_le (h n (by omega))
    rw [agTo]; omega
theorem agTo_pos {t : List (List Int)} : ∀ {n : Nat}, (∀ k, k < n → ones (row t k) ≤ 8) → (0 < agTo t n ↔ ∃ k, k < n ∧ 2 ≤ ones (row t k))
  | 0, _ => by simp [agTo]
  | n + 1, h => by
    have ih := agTo_pos (t := t) (n := n) (fun k hk => h k (by omega))
    have hr := agRow_pos (h n (by omega))
    rw [agTo]
    constructor
    · intro hp
      by_cases e : 0 < agTo t n
      · obtain ⟨k, hk, h2⟩ := ih.1 e; exact ⟨k, by omega, h2⟩
      · exact ⟨n, by omega, hr.1 (by omega)⟩
    · rintro ⟨k, hk, h2⟩
      by_cases e : k = n
      · subst e; have := hr.2 h2; omega
      · have := ih.2 ⟨k, by omega, h2⟩; omega
theorem Tab.ones8 {t : List (List Int)} (h : Tab t) {k : Nat} (hk : k < t.length) : ones (row t k) ≤ 8 := by
  have := ones_le (row t k)
  have := h.len k hk
  have := h.a2
  omega
/-- The fraction of AgainOf. -/
def agF (t : List (List Int)) : Nat × Nat := low (ag t + 420 * t.length) (420 * t.length)
/-- One row more: the fraction so far, with the next row's. -/
theorem ag_step {t : List (List Int)} {k u d : Nat} (h8 : ones (row t k) ≤ 8) (h : u * 420 = agTo t k * d) :
    (if 2 ≤ ones (row t k) then (u * (ones (row t k) - 1) + ones (row t k) * d) * 420 = agTo t (k + 1) * (d * (ones (row t k) - 1)) else u * 420 = agTo t (k + 1) * d) := by
  by_cases h2 : 2 ≤ ones (row t k)
  · rw [if_pos h2]
    have hm := agRow_mul h8 h2
    rw [agTo]
    obtain ⟨m, hm'⟩ : ∃ m, ones (row t k) - 1 = m := ⟨_, rfl⟩
    rw [hm'] at hm ⊢
    obtain ⟨o, ho⟩ : ∃ o, ones (row t k) = o := ⟨_, rfl⟩
    rw [ho] at hm ⊢
    obtain ⟨A, hA⟩ : ∃ A, agRow o = A := ⟨_, rfl⟩
    rw [hA] at hm ⊢
    obtain ⟨B, hB⟩ : ∃ B, agTo t k = B := ⟨_, rfl⟩
    rw [hB] at h ⊢
    grind
  · rw [if_neg h2, agTo, agRow, if_neg h2]; exact h
/-- The sum u / d of all rows gives the fraction. -/
theorem agF_is {t : List (List Int)} {u d : Nat} (ht : 0 < t.length) (hd : 0 < d) (h : u * 420 = ag t * d) :
    low (u + t.length * d) (t.length * d) = agF t := by
  refine low_eq (Nat.mul_pos ht hd) (Nat.mul_pos (by decide) ht) ?_
  obtain ⟨R, hR⟩ : ∃ R, t.length = R := ⟨_, rfl⟩
  obtain ⟨S, hS⟩ : ∃ S, ag t = S := ⟨_, rfl⟩
  rw [hS] at h
  rw [hR, hS]
  grind
theorem agF_pos {t : List (List Int)} (h : Tab t) : 0 < (agF t).2 := low_pos (by have := h.r1; omega)
theorem agF_ge {t : List (List Int)} (h : Tab t) : (agF t).2 ≤ (agF t).1 := by
  have := (low_ge (u := ag t + 420 * t.length) (n := 1) (show 0 < 420 * t.length by have := h.r1; omega)).2 (by omega)
  unfold agF; omega
theorem agF_le {t : List (List Int)} (h : Tab t) : (agF t).1 ≤ 3 * (agF t).2 := by
  have := agTo_le (t := t) (n := t.length) (fun k hk => h.ones8 hk)
  exact (low_le (show 0 < 420 * t.length by have := h.r1; omega)).2 (by unfold ag; omega)
theorem agF_gt {t : List (List Int)} (h : Tab t) : (agF t).2 < (agF t).1 ↔ ∃ k, k < t.length ∧ 2 ≤ ones (row t k) := by
  rw [← agTo_pos (fun k hk => h.ones8 hk)]
  have := low_le (u := ag t + 420 * t.length) (n := 1) (show 0 < 420 * t.length by have := h.r1; omega)
  have e : ag t = agTo t t.length := rfl
  unfold agF
  omega

/-! ### the power -/
theorem gcd_pow {u d : Nat} (h : Nat.gcd u d = 1) (k : Nat) : Nat.gcd (u ^ k) (d ^ k) = 1 := Nat.Coprime.pow k k h
/-- The fraction of ChanceOf. -/
def chF (t : List (List Int)) (k : Nat) : Nat × Nat := ((low (tak t) (t.length * (row t 0).length)).1 ^ k, (low (tak t) (t.length * (row t 0).length)).2 ^ k)
theorem Tab.npos {t : List (List Int)} (h : Tab t) : 0 < t.length * (row t 0).length := Nat.mul_pos h.r1 h.a1
theorem Tab.tak_le {t : List (List Int)} (h : Tab t) : tak t ≤ t.length * (row t 0).length := by
  have hk : ∀ n, n ≤ t.length → takTo t n ≤ n * (row t 0).length := fun n => by
    induction n with
    | zero => intro _; simp [takTo]
    | succ n ih =>
      intro hn
      have := ih (by omega)
      have := ones_le (row t n)
      rw [h.len n (by omega)] at this
      rw [takTo, Nat.succ_mul]; omega
  exact hk _ (Nat.le_refl _)
/-- The power first, the lowest terms then. -/
theorem chF_low {t : List (List Int)} (h : Tab t) (k : Nat) : low (tak t ^ k) ((t.length * (row t 0).length) ^ k) = chF t k := by
  refine low_is (Nat.pow_pos h.npos) (Nat.pow_pos (low_pos h.npos)) (gcd_pow (low_cop h.npos) k) ?_
  rw [← Nat.mul_pow, ← Nat.mul_pow, low_same]
theorem chF_one (t : List (List Int)) : chF t 1 = low (tak t) (t.length * (row t 0).length) := by unfold chF; rw [Nat.pow_one, Nat.pow_one]
theorem chF_pos {t : List (List Int)} (h : Tab t) (k : Nat) : 0 < (chF t k).2 := Nat.pow_pos (low_pos h.npos)
theorem chF_le {t : List (List Int)} (h : Tab t) (k : Nat) : (chF t k).1 ≤ (chF t k).2 := by
  refine Nat.pow_le_pow_left ?_ k
  have := (low_le (u := tak t) (n := 1) h.npos).2 (by have := h.tak_le; omega)
  omega
/-- More times make it no greater. -/
theorem chF_less {t : List (List Int)} (h : Tab t) {k : Nat} (hk : 1 ≤ k) : (chF t k).1 * (chF t 1).2 ≤ (chF t 1).1 * (chF t k).2 := by
  obtain ⟨m, rfl⟩ : ∃ m, k = m + 1 := ⟨k - 1, by omega⟩
  have hm := chF_le h m
  unfold chF at hm ⊢
  rw [Nat.pow_one, Nat.pow_one, Nat.pow_succ, Nat.pow_succ]
  obtain ⟨p, hp⟩ : ∃ p, low (tak t) (t.length * (row t 0).length) = p := ⟨_, rfl⟩
  rw [hp] at hm ⊢
  have := Nat.mul_le_mul_right (p.1 * p.2) hm
  rw [show p.1 ^ m * p.1 * p.2 = p.1 ^ m * (p.1 * p.2) from Nat.mul_assoc _ _ _]
  rw [show p.1 * (p.2 ^ m * p.2) = p.2 ^ m * (p.1 * p.2) by rw [Nat.mul_left_comm]]
  exact this

/-! ### two times is a table -/
theorem row_app_left {a b : List (List Int)} {k : Nat} (hk : k < a.length) : row (a ++ b) k = row a k := by
  unfold row
  rw [List.getD_eq_getElem?_getD, List.getD_eq_getElem?_getD, List.getElem?_append_left hk]
theorem row_app_right {a b : List (List Int)} {k : Nat} (hk : a.length ≤ k) : row (a ++ b) k = row b (k - a.length) := by
  unfold row
  rw [List.getD_eq_getElem?_getD, List.getD_eq_getElem?_getD, List.getElem?_append_right hk]
theorem mulRow_len (r s : List Int) : (mulRow r s).length = r.length * s.length := mulTo_len r s _
theorem mulIn_mem {x y : Int} {s : List Int} : ∀ {h : Nat}, h ≤ s.length → y ∈ mulIn x s h → ∃ z, z ∈ s ∧ y = x * z
  | 0, _, hy => by simp [mulIn] at hy
  | h + 1, hh, hy => by
    rw [mulIn, List.mem_append] at hy
    rcases hy with hy | hy
    · exact mulIn_mem (h := h) (by omega) hy
    · exact ⟨nth s h, nth_mem (by omega), by simpa using hy⟩
theorem mulTo_mem {y : Int} {r s : List Int} : ∀ {i : Nat}, i ≤ r.length → y ∈ mulTo r s i → ∃ x z, x ∈ r ∧ z ∈ s ∧ y = x * z
  | 0, _, hy => by simp [mulTo] at hy
  | i + 1, hi, hy => by
    rw [mulTo, List.mem_append] at hy
    rcases hy with hy | hy
    · exact mulTo_mem (i := i) (by omega) hy
    · obtain ⟨z, hz, e⟩ := mulIn_mem (Nat.le_refl _) hy
      exact ⟨nth r i, z, nth_mem (by omega), hz, e⟩
theorem mulRow_bit {r s : List Int} (hr : ∀ j, j < r.length → nth r j = 0 ∨ nth r j = 1) (hs : ∀ j, j < s.length → nth s j = 0 ∨ nth s j = 1) :
    ∀ j, j < (mulRow r s).length → nth (mulRow r s) j = 0 ∨ nth (mulRow r s) j = 1 := by
  intro j hj
  obtain ⟨x, z, hx, hz, e⟩ := mulTo_mem (y := nth (mulRow r s) j) (Nat.le_refl _) (nth_mem hj)
  rw [e]
  obtain ⟨p, hp, rfl⟩ := nth_of hx
  obtain ⟨q, hq, rfl⟩ := nth_of hz
  rcases hr p hp with e1 | e1 <;> rcases hs q hq with e2 | e2 <;> rw [e1, e2] <;> decide
theorem timIn_mem {r y : List Int} {b : List (List Int)} : ∀ {j : Nat}, j ≤ b.length → y ∈ timIn r b j → ∃ q, q < b.length ∧ y = mulRow r (row b q)
  | 0, _, hy => by simp [timIn] at hy
  | j + 1, hj, hy => by
    rw [timIn, List.mem_append] at hy
    rcases hy with hy | hy
    · exact timIn_mem (j := j) (by omega) hy
    · exact ⟨j, by omega, by simpa using hy⟩
theorem timTo_mem {y : List Int} {a b : List (List Int)} : ∀ {k : Nat}, k ≤ a.length → y ∈ timTo a b k → ∃ p q, p < a.length ∧ q < b.length ∧ y = mulRow (row a p) (row b q)
  | 0, _, hy => by simp [timTo] at hy
  | k + 1, hk, hy => by
    rw [timTo, List.mem_append] at hy
    rcases hy with hy | hy
    · exact timTo_mem (k := k) (by omega) hy
    · obtain ⟨q, hq, e⟩ := timIn_mem (Nat.le_refl _) hy
      exact ⟨k, q, by omega, hq, e⟩
theorem tim_row {a b : List (List Int)} (ha : Tab a) (hb : Tab b) {k : Nat} (hk : k < (timT a b).length) :
    (row (timT a b) k).length = (row a 0).length * (row b 0).length ∧ ∀ j, j < (row (timT a b) k).length → nth (row (timT a b) k) j = 0 ∨ nth (row (timT a b) k) j = 1 := by
  obtain ⟨p, q, hp, hq, e⟩ := timTo_mem (y := row (timT a b) k) (Nat.le_refl _) (row_mem hk)
  rw [e]
  refine ⟨?_, mulRow_bit (fun j hj => ha.bit p j hp hj) (fun j hj => hb.bit q j hq hj)⟩
  rw [mulRow_len, ha.len p hp, hb.len q hq]
theorem tim_len {a b : List (List Int)} (ha : Tab a) (hb : Tab b) : (row (timT a b) 0).length = (row a 0).length * (row b 0).length :=
  (tim_row ha hb (by rw [timT_len]; exact Nat.mul_pos ha.r1 hb.r1)).1
/-- The product of two tables is one if it is small enough. -/
theorem tim_tab {a b : List (List Int)} (ha : Tab a) (hb : Tab b) : Tab (timT a b) ↔ a.length * b.length ≤ 12 ∧ (row a 0).length * (row b 0).length ≤ 8 := by
  constructor
  · intro h
    have h1 := h.r2
    have h2 := h.a2
    rw [timT_len] at h1
    rw [tim_len ha hb] at h2
    exact ⟨h1, h2⟩
  · rintro ⟨h1, h2⟩
    refine ⟨by rw [timT_len]; exact Nat.mul_pos ha.r1 hb.r1, by rw [timT_len]; exact h1, by rw [tim_len ha hb]; exact Nat.mul_pos ha.a1 hb.a1, by rw [tim_len ha hb]; exact h2, fun k hk => by rw [(tim_row ha hb hk).1, tim_len ha hb], fun k j hk hj => (tim_row ha hb hk).2 j hj⟩
/-- Two times are as the table of two times, once. -/
theorem chF_two {t : List (List Int)} (h : Tab t) (_h2 : Tab (timT t t)) : chF (timT t t) 1 = chF t 2 := by
  rw [chF_one, tim_tak h, timT_len, tim_len h h, ← chF_low h 2]
  have e1 : tak t * tak t = tak t ^ 2 := by rw [Nat.pow_two]
  have e2 : t.length * t.length * ((row t 0).length * (row t 0).length) = (t.length * (row t 0).length) ^ 2 := by rw [Nat.pow_two]; grind
  rw [e1, e2]

/-! ### the sum of a row, and the first row with two -/
theorem one_step {r : List Int} {k : Nat} (hr : nth r k = 0 ∨ nth r k = 1) : ((oneTo r (k + 1) : Nat) : Int) = oneTo r k + nth r k := by
  rw [oneTo_succ]
  rcases hr with e | e <;> rw [e] <;> simp
/-- The first row with two, and the first two. -/
structure Tw (t : List (List Int)) (k i j : Nat) : Prop where
  hk : k < t.length
  early : ∀ m, m < k → ones (row t m) ≤ 1
  hij : i < j
  hj : j < (row t k).length
  h1 : nth (row t k) i = 1
  h2 : nth (row t k) j = 1
  only : ∀ m, m < j → nth (row t k) m = 1 → m = i
theorem Tw.two {t : List (List Int)} {k i j : Nat} (h : Tw t k i j) : 2 ≤ ones (row t k) := ones_two h.hij h.hj h.h1 h.h2
theorem Tw.one {t : List (List Int)} {k i j k' i' j' : Nat} (h : Tw t k i j) (h' : Tw t k' i' j') : k = k' ∧ i = i' ∧ j = j' := by
  have ek : k = k' := by
    have a := h.two
    have b := h'.two
    by_cases c : k < k'
    · have := h'.early k c; omega
    · by_cases d : k' < k
      · have := h.early k' d; omega
      · omega
  subst ek
  have ej : j = j' := by
    by_cases c : j < j'
    · have e1 := h'.only j c h.h2
      have e2 := h'.only i (by have := h.hij; omega) h.h1
      have := h.hij; omega
    · by_cases d : j' < j
      · have e1 := h.only j' d h'.h2
        have e2 := h.only i' (by have := h'.hij; omega) h'.h1
        have := h'.hij; omega
      · omega
  subst ej
  exact ⟨rfl, (h.only i' h'.hij h'.h1).symm, rfl⟩
/-- More entries that are 1 than rows: a row with two. -/
theorem two_row {t : List (List Int)} (h : t.length < tak t) : ∃ k, k < t.length ∧ 2 ≤ ones (row t k) := by
  apply Classical.byContradiction
  intro hn
  have := tak_few (t := t) (n := t.length) (fun k hk => by
    apply Classical.byContradiction
    intro h1
    exact hn ⟨k, hk, by omega⟩)
  unfold tak at h
  omega

end Go.Proofs.YtipndddmjgjgpabDoor
