/- Plain mathematics of envelopes: by logarithms, the number and the second base's logarithm times the further exponent are that of the envelope. -/
import Derived.Test.YtljekapbcphdaabDoorBPure
namespace Go.Proofs.YtljekapbcphdaabDoor

/-- Whether s may be the second base. -/
def sndB (g s : Int) : Bool := elB g s && decide (s ≠ 1)
theorem snd_true {g s : Int} : sndB g s = true ↔ elB g s = true ∧ s ≠ 1 := by simp [sndB]
theorem snd_false {g s : Int} : sndB g s = false ↔ ¬ (elB g s = true ∧ s ≠ 1) := by rw [← snd_true]; simp
/-- The envelope. -/
def envO (g s n f : Int) : Int := if sndB g s && (exB g n && exB g f) then gp g (bas g) n * gp g s f % prm g else -1
def envK (g s e n f : Int) : Bool := elB g e && decide (envO g s n f = e)
/-- Whether there may be such an envelope. -/
def envI (g s e : Int) : Bool := sndB g s && elB g e
theorem envO_yes {g s n f : Int} (hs : sndB g s = true) (hn : exB g n = true) (hf : exB g f = true) : envO g s n f = gp g (bas g) n * gp g s f % prm g := by simp [envO, hs, hn, hf]
theorem envO_no {g s n f : Int} (h : ¬ (sndB g s = true ∧ exB g n = true ∧ exB g f = true)) : envO g s n f = -1 := by
  unfold envO; rw [if_neg (by simpa using h)]
theorem env_el {g s n f : Int} (hs : sndB g s = true) (hn : exB g n = true) (hf : exB g f = true) : elB g (envO g s n f) = true := by
  rw [envO_yes hs hn hf]
  obtain ⟨⟨h0, h4⟩, _⟩ := exB_true.1 hn
  exact mul_el (gp_el (bas_el h0 h4) n) (gp_el (snd_true.1 hs).1 f)
theorem env_cases (g s n f : Int) : envO g s n f = -1 ∨ (sndB g s = true ∧ exB g n = true ∧ exB g f = true ∧ elB g (envO g s n f) = true) := by
  by_cases h : sndB g s = true ∧ exB g n = true ∧ exB g f = true
  · exact .inr ⟨h.1, h.2.1, h.2.2, env_el h.1 h.2.1 h.2.2⟩
  · exact .inl (envO_no h)
theorem envK_el {g s e n f : Int} (h : envK g s e n f = true) : elB g e = true := by unfold envK at h; simp at h; exact h.1
theorem envK_eq {g s e n f : Int} (h : envK g s e n f = true) : envO g s n f = e := by unfold envK at h; simp at h; exact h.2
theorem envK_all {g s e n f : Int} (h : envK g s e n f = true) : sndB g s = true ∧ exB g n = true ∧ exB g f = true := by
  rcases env_cases g s n f with h1 | h1
  · have h2 := envK_el h; have h3 := envK_eq h
    rw [← h3, h1] at h2
    rw [elB_out (by omega)] at h2; cases h2
  · exact ⟨h1.1, h1.2.1, h1.2.2.1⟩
theorem envK_pos (g s e n f : Int) : (decide (0 < e) && (envO g s n f == e)) = envK g s e n f := by
  unfold envK
  rcases env_cases g s n f with h1 | ⟨_, _, _, h1⟩
  · by_cases h : envO g s n f = e
    · rw [← h, h1]
      rw [elB_out (by omega)]; rfl
    · have : (envO g s n f == e) = false := by simpa using h
      rw [this]; simp [h]
  · by_cases h : envO g s n f = e
    · rw [← h]
      have := (elB_bound h1).1
      have h2 : decide (0 < envO g s n f) = true := by simp; omega
      rw [h1, h2]; simp
    · have : (envO g s n f == e) = false := by simpa using h
      rw [this]; simp [h]
theorem envK_own {g s n f : Int} (h : 0 ≤ envO g s n f) : elB g (envO g s n f) = true ∧ envK g s (envO g s n f) n f = true := by
  rcases env_cases g s n f with h1 | ⟨_, _, _, h1⟩
  · omega
  · exact ⟨h1, by unfold envK; rw [h1]; simp⟩

/-! ### by logarithms -/
theorem lg_ex {g a : Int} (ha : elB g a = true) : exB g (lg g a) = true := glog_ex ha
theorem lg_snd {g s : Int} (hs : sndB g s = true) : lg g s ≠ 0 := by
  intro h
  obtain ⟨h1, h2⟩ := snd_true.1 hs
  have := el_lg h1
  rw [h] at this
  have h0 : gp g (bas g) 0 = 1 := gp_zero _ _
  rw [h0] at this; exact h2 this
theorem envK_log {g s e n f : Int} (hs : sndB g s = true) (he : elB g e = true) (hn : exB g n = true) (hf : exB g f = true) : envK g s e n f = true ↔ Cg (ord g) (n + lg g s * f) (lg g e) := by
  obtain ⟨⟨h0, h4⟩, _⟩ := exB_true.1 hn
  obtain ⟨h1, _⟩ := snd_true.1 hs
  have hb := bas_el h0 h4
  have e1 : envO g s n f = gp g (bas g) (n + lg g s * f) := by
    rw [envO_yes hs hn hf, gp_add hb, gp_lg h1]
  unfold envK
  rw [he, e1]
  have e2 := el_lg he
  constructor
  · intro h
    have h5 : gp g (bas g) (n + lg g s * f) = e := by simpa using h
    rw [e2] at h5
    exact (gp_cg h0 h4).1 h5
  · intro h
    have h5 := (gp_cg h0 h4).2 h
    rw [← e2] at h5
    simpa using h5

theorem inv_all : ∀ g ∈ [(0 : Int), 1, 2, 3], ∀ n ∈ (List.range 23).map (fun k : Nat => (k : Int)), 0 < n → n < ord g → n * gback g n % ord g = 1 := by decide +kernel
theorem inv_at {g n : Int} (hx : exB g n = true) (hn : n ≠ 0) : Cg (ord g) (n * gback g n) 1 := by
  obtain ⟨⟨h0, h4⟩, n0, n1⟩ := exB_true.1 hx
  obtain ⟨o1, o2⟩ := ord_bd h0 h4
  have h := inv_all g (g_mem h0 h4) n (List.mem_map.2 ⟨n.toNat, List.mem_range.2 (by omega), by omega⟩) (by omega) n1
  exact cg_mod.1 (by rw [h, Int.emod_eq_of_lt (by omega) (by omega)])
/-- The further exponent. -/
def wayF (g s e n : Int) : Int := gback g (lg g s) * (lg g e - n) % ord g
theorem way_ex {g s e : Int} (h0 : 0 ≤ g) (h4 : g < 4) (n : Int) : exB g (wayF g s e n) = true := ex_of_mod h0 h4 _
theorem way_bd {g s e : Int} (h0 : 0 ≤ g) (h4 : g < 4) (n : Int) : 0 ≤ wayF g s e n ∧ wayF g s e n < ord g := (exB_true.1 (way_ex h0 h4 n)).2
/-- What solves n + the logarithm of the second base times f. -/
theorem way_solves {g s : Int} (hs : sndB g s = true) {x y : Int} : Cg (ord g) (lg g s * x) y ↔ Cg (ord g) x (gback g (lg g s) * y) := by
  obtain ⟨h1, _⟩ := snd_true.1 hs
  have hi := inv_at (lg_ex h1) (lg_snd hs)
  constructor
  · rintro ⟨k, hk⟩
    obtain ⟨j, hj⟩ := hi
    refine ⟨gback g (lg g s) * k - j * x, ?_⟩
    have : x * (lg g s * gback g (lg g s)) = x * (1 + ord g * j) := by rw [hj]
    grind
  · rintro ⟨k, hk⟩
    obtain ⟨j, hj⟩ := hi
    refine ⟨lg g s * k + j * y, ?_⟩
    have : y * (lg g s * gback g (lg g s)) = y * (1 + ord g * j) := by rw [hj]
    grind
theorem cg_smallE {q a b : Int} (h : Cg q a b) (a0 : 0 ≤ a) (a1 : a < q) (b0 : 0 ≤ b) (b1 : b < q) : a = b := by
  have := cg_mod.2 h
  rwa [Int.emod_eq_of_lt a0 a1, Int.emod_eq_of_lt b0 b1] at this
theorem envK_way {g s e n f : Int} (hs : sndB g s = true) (he : elB g e = true) (hn : exB g n = true) (hf : exB g f = true) : envK g s e n f = decide (wayF g s e n = f) := by
  obtain ⟨⟨h0, h4⟩, _⟩ := exB_true.1 hn
  obtain ⟨_, f0, f1⟩ := exB_true.1 hf
  obtain ⟨w0, w1⟩ := way_bd (s := s) (e := e) h0 h4 n
  have key : envK g s e n f = true ↔ wayF g s e n = f := by
    rw [envK_log hs he hn hf]
    constructor
    · intro h
      have h2 : Cg (ord g) (lg g s * f) (lg g e - n) := by
        obtain ⟨k, hk⟩ := h; exact ⟨k, by grind⟩
      have h3 := (way_solves hs).1 h2
      exact (cg_smallE (h3.trans (Cg.rem _ _).symm) f0 f1 w0 w1).symm
    · intro h
      have h3 : Cg (ord g) f (gback g (lg g s) * (lg g e - n)) := by rw [← h]; exact Cg.rem _ _
      obtain ⟨k, hk⟩ := (way_solves hs).2 h3
      exact ⟨k, by grind⟩
  by_cases h : wayF g s e n = f
  · rw [decide_eq_true h]; exact key.2 h
  · rw [decide_eq_false h]
    cases hb : envK g s e n f
    · rfl
    · exact absurd (key.1 hb) h

/-- The ways for the first k numbers. -/
def waysTo (g s e : Int) : Nat → List (List Int)
  | 0 => []
  | k + 1 => waysTo g s e k ++ [[wayF g s e k]]
theorem waysTo_len (g s e : Int) : ∀ k, (waysTo g s e k).length = k
  | 0 => rfl
  | k + 1 => by simp [waysTo, waysTo_len g s e k]
theorem waysTo_row (g s e : Int) : ∀ n k, k < n → row (waysTo g s e n) k = [wayF g s e k]
  | n + 1, k, hk => by
    have hl := waysTo_len g s e n
    unfold waysTo row
    rw [List.getD_eq_getElem?_getD]
    by_cases e' : k = n
    · subst e'; rw [List.getElem?_append_right (by omega)]; simp [hl]
    · rw [List.getElem?_append_left (by omega)]
      have := waysTo_row g s e n k (by omega)
      unfold row at this; rw [List.getD_eq_getElem?_getD] at this; exact this
def ways (g s e : Int) : List (List Int) := if envI g s e then waysTo g s e (ord g).toNat else []
theorem ways_yes {g s e : Int} (h : envI g s e = true) : ways g s e = waysTo g s e (ord g).toNat := by simp [ways, h]
theorem ways_no {g s e : Int} (h : envI g s e = false) : ways g s e = [] := by simp [ways, h]
theorem envI_true {g s e : Int} : envI g s e = true ↔ sndB g s = true ∧ elB g e = true := by simp [envI]
theorem envI_false {g s e : Int} : envI g s e = false ↔ ¬ (sndB g s = true ∧ elB g e = true) := by rw [← envI_true]; simp
theorem envI_g {g s e : Int} (h : envI g s e = true) : 0 ≤ g ∧ g < 4 := elB_group (envI_true.1 h).2
/-- Of the further exponents below k those that are tried and fit: none, or the one. -/
def wayTo (f : Int) (k : Nat) : List Int := if f < k then [f] else []
theorem wayTo_zero {f : Int} (h : 0 ≤ f) : wayTo f 0 = [] := by unfold wayTo; rw [if_neg (by omega)]
theorem wayTo_hit {f : Int} {k : Nat} (h : f = k) : wayTo f (k + 1) = wayTo f k ++ [(k : Int)] := by
  unfold wayTo; rw [if_pos (by omega), if_neg (by omega), h]; rfl
theorem wayTo_miss {f : Int} {k : Nat} (h : f ≠ k) : wayTo f (k + 1) = wayTo f k := by
  unfold wayTo
  by_cases h2 : f < k
  · rw [if_pos (by omega), if_pos h2]
  · rw [if_neg (by omega), if_neg h2]
theorem wayTo_all {f : Int} {k : Nat} (h : f < k) : wayTo f k = [f] := by unfold wayTo; rw [if_pos h]
theorem wayTo_len (f : Int) (k : Nat) : (wayTo f k).length ≤ 1 := by unfold wayTo; split <;> simp
theorem way_ok {g s e : Int} (h : envI g s e = true) {k : Nat} (hk : (k : Int) < ord g) : envK g s e k (wayF g s e k) = true := by
  obtain ⟨h0, h4⟩ := envI_g h
  obtain ⟨h1, h2⟩ := envI_true.1 h
  rw [envK_way h1 h2 (exB_true.2 ⟨⟨h0, h4⟩, by omega, hk⟩) (way_ex h0 h4 _)]; simp

/-! ### the base -/
def baseF (g a x b y : Int) : Int := secretOf g y a x b
theorem base_ne {g s e a x b y : Int} (h1 : envK g s e a x = true) (h2 : envK g s e b y = true) (hne : a ≠ b) : y ≠ x := by
  intro h; subst h
  obtain ⟨hs, ha, hf⟩ := envK_all h1
  obtain ⟨_, hb, _⟩ := envK_all h2
  have he := envK_el h1
  have l1 := (envK_log hs he ha hf).1 h1
  have l2 := (envK_log hs he hb hf).1 h2
  obtain ⟨_, a0, a1⟩ := exB_true.1 ha
  obtain ⟨_, b0, b1⟩ := exB_true.1 hb
  obtain ⟨k, hk⟩ := l1.trans l2.symm
  exact hne (cg_smallE ⟨k, by omega⟩ a0 a1 b0 b1)
theorem sub_small {q a b : Int} (h : Cg q (a - b) 0) (a0 : 0 ≤ a) (a1 : a < q) (b0 : 0 ≤ b) (b1 : b < q) : a = b := by
  obtain ⟨k, hk⟩ := h
  exact cg_smallE ⟨k, by omega⟩ a0 a1 b0 b1
theorem base_key {g s e a x b y : Int} (h1 : envK g s e a x = true) (h2 : envK g s e b y = true) (hne : a ≠ b) : exB g (baseF g a x b y) = true ∧ keyOf g (baseF g a x b y) = s := by
  have hxy := base_ne h1 h2 hne
  obtain ⟨hs, ha, hx⟩ := envK_all h1
  obtain ⟨_, hb, hy⟩ := envK_all h2
  have he := envK_el h1
  obtain ⟨h3, _⟩ := snd_true.1 hs
  obtain ⟨⟨h0, h4⟩, a0, a1⟩ := exB_true.1 ha
  obtain ⟨_, x0, x1⟩ := exB_true.1 hx
  obtain ⟨_, y0, y1⟩ := exB_true.1 hy
  have hq : exB g (baseF g a x b y) = true := ex_of_mod h0 h4 _
  refine ⟨hq, ?_⟩
  rw [key_yes hq, el_lg h3]
  refine (gp_cg h0 h4).2 ?_
  have hd : (y - x) % ord g ≠ 0 := by
    intro h
    exact hxy (sub_small (cg_mod.1 (by rw [h]; rfl)) y0 y1 x0 x1)
  have hi := inv_at (ex_of_mod h0 h4 (y - x)) hd
  have hr := Cg.rem (ord g) (y - x)
  have hr2 := Cg.rem (ord g) (a - b)
  have hr3 : Cg (ord g) (baseF g a x b y) ((a - b) % ord g * gback g ((y - x) % ord g)) := Cg.rem _ _
  have l1 := (envK_log hs he ha hx).1 h1
  have l2 := (envK_log hs he hb hy).1 h2
  -- a - b = the logarithm times (y - x)
  have l3 : Cg (ord g) (a - b) (lg g s * (y - x)) := by
    obtain ⟨k, hk⟩ := l1.trans l2.symm
    exact ⟨k, by grind⟩
  generalize gback g ((y - x) % ord g) = u at *
  obtain ⟨k1, e1⟩ := hi
  obtain ⟨k2, e2⟩ := hr
  obtain ⟨k3, e3⟩ := hr2
  obtain ⟨k4, e4⟩ := hr3
  obtain ⟨k5, e5⟩ := l3
  generalize (y - x) % ord g = d at *
  generalize (a - b) % ord g = c at *
  generalize baseF g a x b y = r at *
  generalize lg g s = l at *
  generalize ord g = q at *
  -- r = c u, c = l (y - x) + .., y - x = d - q k2, d u = 1 + q k1
  refine ⟨k4 + k3 * u + k5 * u - l * k2 * u + l * k1, ?_⟩
  have e6 : c * u = (l * (d - q * k2) + q * k5 + q * k3) * u := by
    have : c = l * (d - q * k2) + q * k5 + q * k3 := by
      have : y - x = d - q * k2 := by omega
      rw [← this]; omega
    rw [this]
  have e7 : l * (d * u) = l * (1 + q * k1) := by rw [e1]
  grind

/-! ### sums -/
def envS (g a b t : Int) : Int := if elB g a && (elB g b && exB g t) then a * gp g b t % prm g else -1
theorem envS_yes {g a b t : Int} (ha : elB g a = true) (hb : elB g b = true) (ht : exB g t = true) : envS g a b t = a * gp g b t % prm g := by simp [envS, ha, hb, ht]
theorem envS_no {g a b t : Int} (h : ¬ (elB g a = true ∧ elB g b = true ∧ exB g t = true)) : envS g a b t = -1 := by unfold envS; rw [if_neg (by simpa using h)]
theorem envS_cases (g a b t : Int) : envS g a b t = -1 ∨ (elB g a = true ∧ elB g b = true ∧ exB g t = true ∧ elB g (envS g a b t) = true) := by
  by_cases h : elB g a = true ∧ elB g b = true ∧ exB g t = true
  · exact .inr ⟨h.1, h.2.1, h.2.2, by rw [envS_yes h.1 h.2.1 h.2.2]; exact mul_el h.1 (gp_el h.2.1 t)⟩
  · exact .inl (envS_no h)
theorem lg_gp {g : Int} (h0 : 0 ≤ g) (h4 : g < 4) (n : Int) : Cg (ord g) (lg g (gp g (bas g) n)) n := by
  have h1 : elB g (gp g (bas g) n) = true := gp_el (bas_el h0 h4) n
  exact (gp_cg h0 h4).1 (el_gp h1)
theorem lg_mul {g a b : Int} (ha : elB g a = true) (hb : elB g b = true) : Cg (ord g) (lg g (a * b % prm g)) (lg g a + lg g b) := by
  obtain ⟨h0, h4⟩ := elB_group ha
  have e : a * b % prm g = gp g (bas g) (lg g a + lg g b) := by
    rw [gp_add (bas_el h0 h4), ← el_lg ha, ← el_lg hb]
  rw [e]; exact lg_gp h0 h4 _
theorem lg_pow {g a : Int} (ha : elB g a = true) (n : Int) : Cg (ord g) (lg g (gp g a n)) (lg g a * n) := by
  obtain ⟨h0, h4⟩ := elB_group ha
  rw [gp_lg ha]; exact lg_gp h0 h4 _
theorem sum_ok {g s a b t : Int} {i j : Nat} (hs : sndB g s = true) (ha : elB g a = true) (hb : elB g b = true) (ht : exB g t = true) (hi : (i : Int) < ord g) (hj : (j : Int) < ord g) :
    envK g s (envS g a b t) ((i + t * j) % ord g) ((wayF g s a i + t * wayF g s b j) % ord g) = true := by
  obtain ⟨h0, h4⟩ := elB_group ha
  have hei : exB g i = true := exB_true.2 ⟨⟨h0, h4⟩, by omega, hi⟩
  have hej : exB g j = true := exB_true.2 ⟨⟨h0, h4⟩, by omega, hj⟩
  have k1 := (envK_log hs ha hei (way_ex h0 h4 _)).1 (way_ok (envI_true.2 ⟨hs, ha⟩) hi)
  have k2 := (envK_log hs hb hej (way_ex h0 h4 _)).1 (way_ok (envI_true.2 ⟨hs, hb⟩) hj)
  have hel : elB g (envS g a b t) = true := by rw [envS_yes ha hb ht]; exact mul_el ha (gp_el hb t)
  rw [envK_log hs hel (ex_of_mod h0 h4 _) (ex_of_mod h0 h4 _)]
  have l1 : Cg (ord g) (lg g (envS g a b t)) (lg g a + lg g b * t) := by
    rw [envS_yes ha hb ht]
    exact (lg_mul ha (gp_el hb t)).trans ((Cg.refl _ _).add (lg_pow hb t))
  have r1 := Cg.rem (ord g) ((i : Int) + t * j)
  have r2 := Cg.rem (ord g) (wayF g s a i + t * wayF g s b j)
  generalize wayF g s a i = x at *
  generalize wayF g s b j = y at *
  refine (r1.add (r2.mul (lg g s))).trans (Cg.trans ?_ l1.symm)
  have := k1.add (k2.mul t)
  obtain ⟨k, hk⟩ := this
  exact ⟨k, by grind⟩

/-! ### the relations -/
theorem gp_minus_el {g a b : Int} (ha : elB g a = true) (hb : elB g b = true) (n : Int) : elB g (a * gp g b n % prm g) = true := mul_el ha (gp_el hb n)
theorem one_cl {g s m : Int} (hs : elB g s = true) (hm : elB g m = true) : Cl g [[s]] [m] := by
  obtain ⟨h0, h4⟩ := elB_group hs
  refine ⟨h0, h4, by simp, by simp, rfl, by simp [unk, row], by simp [unk, row], ?_, by simp [allEl, hm]⟩
  intro j hj
  obtain rfl : j = 0 := by simp at hj; omega
  exact ⟨rfl, by simp [row, allEl, hs]⟩
theorem two_cl {g b s m : Int} (hb : elB g b = true) (hs : elB g s = true) (hm : elB g m = true) : Cl g [[b, s]] [m] := by
  obtain ⟨h0, h4⟩ := elB_group hs
  refine ⟨h0, h4, by simp, by simp, rfl, by simp [unk, row], by simp [unk, row], ?_, by simp [allEl, hm]⟩
  intro j hj
  obtain rfl : j = 0 := by simp at hj; omega
  exact ⟨rfl, by simp [row, allEl, hb, hs]⟩
theorem one_solv {g s m x : Int} (hs : elB g s = true) (hm : elB g m = true) : solvB g [[s]] [m] [x] = true ↔ exB g x = true ∧ Cg (ord g) (lg g s * x) (lg g m) := by
  rw [solv_true]
  constructor
  · rintro ⟨h1, h2⟩
    have := h1.solved.1 h2 0 (by simp)
    have hx : exB g x = true := by have := h1.ex; simpa [allEx] using this
    exact ⟨hx, by simpa [dotR, dotTo, row, nth] using this⟩
  · rintro ⟨h1, h2⟩
    have hl : Lot g [[s]] [m] [x] := ⟨one_cl hs hm, by simp [unk, row], by simp [allEx, h1]⟩
    refine ⟨hl, hl.solved.2 fun k hk => ?_⟩
    obtain rfl : k = 0 := by simp at hk; omega
    simpa [dotR, dotTo, row, nth] using h2
theorem two_solv {g b s m x y : Int} (hb : elB g b = true) (hs : elB g s = true) (hm : elB g m = true) : solvB g [[b, s]] [m] [x, y] = true ↔ (exB g x = true ∧ exB g y = true) ∧ Cg (ord g) (lg g b * x + lg g s * y) (lg g m) := by
  rw [solv_true]
  constructor
  · rintro ⟨h1, h2⟩
    have := h1.solved.1 h2 0 (by simp)
    have hx : exB g x = true ∧ exB g y = true := by have := h1.ex; simpa [allEx] using this
    exact ⟨hx, by simpa [dotR, dotTo, row, nth] using this⟩
  · rintro ⟨h1, h2⟩
    have hl : Lot g [[b, s]] [m] [x, y] := ⟨two_cl hb hs hm, by simp [unk, row], by simp [allEx, h1]⟩
    refine ⟨hl, hl.solved.2 fun k hk => ?_⟩
    obtain rfl : k = 0 := by simp at hk; omega
    simpa [dotR, dotTo, row, nth] using h2

end Go.Proofs.YtljekapbcphdaabDoor
