/- The relations of envelopes: their solutions, counted. -/
import Derived.Test.YtljekapbcphdaabDoorPureE
namespace Go.Proofs.YtljekapbcphdaabDoor

theorem rowE_append {a b : List (List Int)} {j : Nat} : row (a ++ b) j = if j < a.length then row a j else row b (j - a.length) := by
  unfold row
  rw [List.getD_eq_getElem?_getD, List.getD_eq_getElem?_getD, List.getD_eq_getElem?_getD, List.getElem?_append]
  by_cases h : j < a.length
  · rw [if_pos h, if_pos h]
  · rw [if_neg h, if_neg h]
theorem extE_row {xs : List Int} : ∀ {n k : Nat}, k < n → row (extTo xs n) k = xs ++ [(k : Int)]
  | 0, k, h => by omega
  | n + 1, k, h => by
    unfold extTo
    rw [rowE_append, extTo_len]
    by_cases e : k < n
    · rw [if_pos e]; exact extE_row e
    · obtain rfl : k = n := by omega
      rw [if_neg e, Nat.sub_self]; rfl
theorem longE_row {q : Nat} {xss : List (List Int)} : ∀ {n j k : Nat}, j < n → k < q → row (longTo q xss n) (j * q + k) = row xss j ++ [(k : Int)]
  | 0, j, k, h, _ => by omega
  | n + 1, j, k, h, hk => by
    unfold longTo
    rw [rowE_append, longTo_len]
    by_cases e : j < n
    · have : (j + 1) * q ≤ n * q := Nat.mul_le_mul_right q e
      rw [Nat.succ_mul] at this
      rw [if_pos (by omega)]; exact longE_row e hk
    · obtain rfl : j = n := by omega
      rw [if_neg (by omega), show j * q + k - j * q = k by omega, extE_row hk]
theorem lotsE1_row {q k : Nat} (hk : k < q) : row (lots q 1) k = [(k : Int)] := by
  have := longE_row (q := q) (xss := lots q 0) (n := 1) (j := 0) (k := k) (by omega) hk
  rw [Nat.zero_mul, Nat.zero_add] at this
  exact this
theorem lotsE2_row {q x y : Nat} (hx : x < q) (hy : y < q) : row (lots q 2) (x * q + y) = [(x : Int), (y : Int)] := by
  have hl : (lots q 1).length = q := by rw [lots_len]; simp
  have := longE_row (q := q) (xss := lots q 1) (n := (lots q 1).length) (j := x) (k := y) (by rw [hl]; exact hx) hy
  rw [lotsE1_row hx] at this
  exact this
theorem solE_one {q : Nat} {c : List Int → Bool} {f : Int} (f0 : 0 ≤ f) (h : ∀ k : Nat, k < q → c [(k : Int)] = decide (f = k)) : ∀ n, n ≤ q → solTo c (lots q 1) n = if f < n then [[f]] else []
  | 0, _ => by rw [if_neg (by omega)]; rfl
  | n + 1, hn => by
    have ih := solE_one f0 h n (by omega)
    have hc := h n (by omega)
    unfold solTo
    rw [lotsE1_row (by omega), hc, ih]
    by_cases e : f = n
    · rw [if_pos (by simpa using e), if_neg (by omega), if_pos (by omega), e]; rfl
    · rw [if_neg (by simpa using e)]
      by_cases h2 : f < n
      · rw [if_pos h2, if_pos (by omega)]
      · rw [if_neg h2, if_neg (by omega)]
theorem solE_seg {c : List Int → Bool} {xss : List (List Int)} {a q : Nat} {f : Int} (f0 : 0 ≤ f) (h : ∀ k : Nat, k < q → c (row xss (a + k)) = decide (f = k)) : ∀ n, n ≤ q → (solTo c xss (a + n)).length = (solTo c xss a).length + if f < n then 1 else 0
  | 0, _ => by rw [if_neg (by omega)]; rfl
  | n + 1, hn => by
    have ih := solE_seg f0 h n (by omega)
    have hc := h n (by omega)
    have hs : solTo c xss (a + (n + 1)) = if c (row xss (a + n)) then solTo c xss (a + n) ++ [row xss (a + n)] else solTo c xss (a + n) := rfl
    rw [hs, hc]
    by_cases e : f = n
    · rw [if_pos (by simpa using e), List.length_append, ih, if_neg (by omega), if_pos (by omega)]; rfl
    · rw [if_neg (by simpa using e), ih]
      by_cases h2 : f < n
      · rw [if_pos h2, if_pos (by omega)]
      · rw [if_neg h2, if_neg (by omega)]
theorem solE_two {q : Nat} {c : List Int → Bool} {f : Nat → Int} (f0 : ∀ x, x < q → 0 ≤ f x ∧ f x < q) (h : ∀ x y : Nat, x < q → y < q → c [(x : Int), (y : Int)] = decide (f x = y)) : ∀ m, m ≤ q → (solTo c (lots q 2) (m * q)).length = m
  | 0, _ => by rw [Nat.zero_mul]; rfl
  | m + 1, hm => by
    have ih := solE_two f0 h m (by omega)
    obtain ⟨f1, f2⟩ := f0 m (by omega)
    have := solE_seg (c := c) (xss := lots q 2) (a := m * q) (q := q) f1 (fun k hk => by rw [lotsE2_row (by omega) hk]; exact h m k (by omega) hk) q (Nat.le_refl _)
    rw [Nat.succ_mul, this, ih, if_pos f2]

theorem open_len {g s e : Int} (h : envI g s e = true) : ((sols g [[bas g, s]] [e]).length : Int) = ord g := by
  obtain ⟨h1, h2⟩ := envI_true.1 h
  obtain ⟨g0, g4⟩ := envI_g h
  obtain ⟨h3, _⟩ := snd_true.1 h1
  have hb := bas_el g0 g4
  obtain ⟨o1, o2⟩ := ord_bd g0 g4
  unfold sols
  rw [if_pos (clB_true.2 (two_cl hb h3 h2))]
  have hu : unk [[bas g, s]] = 2 := rfl
  rw [hu, show (ord g).toNat ^ 2 = (ord g).toNat * (ord g).toNat from Nat.pow_two _]
  rw [solE_two (f := fun x => wayF g s e x) (fun x hx => ?_) (fun x y hx hy => ?_) _ (Nat.le_refl _)]
  · omega
  · have := way_bd (s := s) (e := e) g0 g4 (x : Int); omega
  · have ex : exB g x = true := exB_true.2 ⟨⟨g0, g4⟩, by omega, by omega⟩
    have ey : exB g y = true := exB_true.2 ⟨⟨g0, g4⟩, by omega, by omega⟩
    rw [← envK_way h1 h2 ex ey]
    have hl : Cg (ord g) (lg g (bas g)) 1 := by
      have := lg_gp g0 g4 1
      rwa [gp_one hb] at this
    have key : solvB g [[bas g, s]] [e] [(x : Int), (y : Int)] = true ↔ envK g s e x y = true := by
      rw [two_solv hb h3 h2, envK_log h1 h2 ex ey]
      obtain ⟨k, hk⟩ := hl
      constructor
      · rintro ⟨_, j, hj⟩; exact ⟨j - k * x, by rw [hk] at hj; grind⟩
      · rintro ⟨j, hj⟩; exact ⟨⟨ex, ey⟩, j + k * x, by rw [hk]; grind⟩
    cases hA : envK g s e x y
    · cases hB : solvB g [[bas g, s]] [e] [(x : Int), (y : Int)]
      · rfl
      · rw [key.1 hB] at hA; cases hA
    · exact key.2 hA
theorem open_solv {g s e n f : Int} (h : envI g s e = true) : solvB g [[bas g, s]] [e] [n, f] = envK g s e n f := by
  obtain ⟨h1, h2⟩ := envI_true.1 h
  obtain ⟨g0, g4⟩ := envI_g h
  obtain ⟨h3, _⟩ := snd_true.1 h1
  have hb := bas_el g0 g4
  have hl : Cg (ord g) (lg g (bas g)) 1 := by
    have := lg_gp g0 g4 1
    rwa [gp_one hb] at this
  have key : solvB g [[bas g, s]] [e] [n, f] = true ↔ envK g s e n f = true := by
    rw [two_solv hb h3 h2]
    obtain ⟨k, hk⟩ := hl
    constructor
    · rintro ⟨⟨ex, ey⟩, j, hj⟩
      exact (envK_log h1 h2 ex ey).2 ⟨j - k * n, by rw [hk] at hj; grind⟩
    · intro hK
      obtain ⟨_, ex, ey⟩ := envK_all hK
      obtain ⟨j, hj⟩ := (envK_log h1 h2 ex ey).1 hK
      exact ⟨⟨ex, ey⟩, j + k * n, by rw [hk]; grind⟩
  cases hA : envK g s e n f
  · cases hB : solvB g [[bas g, s]] [e] [n, f]
    · rfl
    · rw [key.1 hB] at hA; cases hA
  · exact key.2 hA
/-- What the second base must make. -/
def numM (g e n : Int) : Int := e * gp g (bas g) (-n) % prm g
theorem numM_el {g e : Int} (he : elB g e = true) (n : Int) : elB g (numM g e n) = true := by
  obtain ⟨g0, g4⟩ := elB_group he
  exact mul_el he (gp_el (bas_el g0 g4) _)
theorem numM_lg {g e : Int} (he : elB g e = true) (n : Int) : Cg (ord g) (lg g (numM g e n)) (lg g e - n) := by
  obtain ⟨g0, g4⟩ := elB_group he
  have := (lg_mul he (gp_el (bas_el g0 g4) (-n))).trans ((Cg.refl _ _).add (lg_gp g0 g4 (-n)))
  rw [Int.sub_eq_add_neg]; exact this
theorem one_sols {g s m f : Int} (hs : sndB g s = true) (hm : elB g m = true) (hf : exB g f = true) (h : Cg (ord g) (lg g s * f) (lg g m)) : sols g [[s]] [m] = [[f]] := by
  obtain ⟨h3, _⟩ := snd_true.1 hs
  obtain ⟨⟨g0, g4⟩, f0, f1⟩ := exB_true.1 hf
  obtain ⟨o1, o2⟩ := ord_bd g0 g4
  unfold sols
  rw [if_pos (clB_true.2 (one_cl h3 hm))]
  have hu : unk [[s]] = 1 := rfl
  rw [hu, Nat.pow_one]
  rw [solE_one f0 (fun k hk => ?_) _ (Nat.le_refl _), if_pos (by omega)]
  have ek : exB g k = true := exB_true.2 ⟨⟨g0, g4⟩, by omega, by omega⟩
  have key : solvB g [[s]] [m] [(k : Int)] = true ↔ f = k := by
    rw [one_solv h3 hm]
    constructor
    · rintro ⟨_, h2⟩
      have h5 := (way_solves hs).1 h2
      have h6 := (way_solves hs).1 h
      exact cg_smallE (h6.trans h5.symm) f0 f1 (by omega) (by omega)
    · intro h2; exact ⟨ek, by rw [← h2]; exact h⟩
  by_cases h2 : f = k
  · rw [decide_eq_true h2]; exact key.2 h2
  · rw [decide_eq_false h2]
    cases hB : solvB g [[s]] [m] [(k : Int)]
    · rfl
    · exact absurd (key.1 hB) h2
theorem number_sols {g s e n : Int} (h : envI g s e = true) : sols g [[s]] [numM g e n] = [[wayF g s e n]] := by
  obtain ⟨h1, h2⟩ := envI_true.1 h
  obtain ⟨g0, g4⟩ := envI_g h
  refine one_sols h1 (numM_el h2 n) (way_ex g0 g4 n) ?_
  exact (((way_solves h1).2 (Cg.rem _ _))).trans (numM_lg h2 n).symm
/-- What the second base must make for two envelopes of the same number. -/
def sameM (g a b : Int) : Int := a * gp g b (-1) % prm g
theorem sameM_el {g a b : Int} (ha : elB g a = true) (hb : elB g b = true) : elB g (sameM g a b) = true := mul_el ha (gp_el hb _)
theorem same_solv {g s a b : Int} (hs : sndB g s = true) (ha : elB g a = true) (hb : elB g b = true) (k : Int) : solvB g [[s]] [sameM g a b] [(wayF g s a k - wayF g s b k) % ord g] = true := by
  obtain ⟨h3, _⟩ := snd_true.1 hs
  obtain ⟨g0, g4⟩ := elB_group ha
  rw [one_solv h3 (sameM_el ha hb)]
  refine ⟨ex_of_mod g0 g4 _, ?_⟩
  have r := Cg.rem (ord g) (wayF g s a k - wayF g s b k)
  have k1 : Cg (ord g) (lg g s * wayF g s a k) (lg g a - k) := (way_solves hs).2 (Cg.rem _ _)
  have k2 : Cg (ord g) (lg g s * wayF g s b k) (lg g b - k) := (way_solves hs).2 (Cg.rem _ _)
  have l1 : Cg (ord g) (lg g (sameM g a b)) (lg g a + lg g b * (-1)) := (lg_mul ha (gp_el hb _)).trans ((Cg.refl _ _).add (lg_pow hb _))
  generalize wayF g s a k = x at *
  generalize wayF g s b k = y at *
  refine (r.mul (lg g s)).trans (Cg.trans ?_ l1.symm)
  obtain ⟨i, hi⟩ := k1
  obtain ⟨j, hj⟩ := k2
  exact ⟨i - j, by grind⟩

end Go.Proofs.YtljekapbcphdaabDoor
