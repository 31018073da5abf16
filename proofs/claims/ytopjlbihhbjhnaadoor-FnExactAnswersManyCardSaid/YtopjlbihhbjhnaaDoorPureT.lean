/- Plain mathematics of chapter 2: keys, talks, secrets. -/
import Derived.Test.YtopjlbihhbjhnaaDoorPureB
namespace Go.Proofs.YtopjlbihhbjhnaaDoor

def keyOf (g s : Int) : Int := if exB g s then gp g (bas g) s else -1
def tellOf (g secret further ask : Int) : Int := (further + ask * secret) % ord g
def sayUp (g key ask tell : Int) : Int := gp g (bas g) tell * gp g key (-ask) % prm g
def tokB (g key say ask tell : Int) : Bool := elB g key && elB g say && exB g ask && exB g tell && decide (gp g (bas g) tell = say * gp g key ask % prm g)
def secretOf (g a1 t1 a2 t2 : Int) : Int := (t1 - t2) % ord g * gback g ((a1 - a2) % ord g) % ord g

theorem bas_one {g : Int} (h0 : 0 ≤ g) (h4 : g < 4) : bas g ≠ 1 := by have := bas_bd h0 h4; omega
theorem ex_mod {g n : Int} (hx : exB g n = true) : n % ord g = n := by
  obtain ⟨_, h1, h2⟩ := exB_true.1 hx
  exact Int.emod_eq_of_lt h1 h2
theorem ex_of_mod {g : Int} (h0 : 0 ≤ g) (h4 : g < 4) (n : Int) : exB g (n % ord g) = true := by
  have o := ord_bd h0 h4
  exact exB_true.2 ⟨⟨h0, h4⟩, Int.emod_nonneg _ (by omega), Int.emod_lt_of_pos _ (by omega)⟩
theorem gp_mod (g a n : Int) : gp g a (n % ord g) = gp g a n := gp_congr (Int.emod_emod_of_dvd _ (Int.dvd_refl _))
/-- Powers of the base are equal just where the exponents are, by the order. -/
theorem gp_inj {g : Int} (h0 : 0 ≤ g) (h4 : g < 4) {m n : Int} : gp g (bas g) m = gp g (bas g) n ↔ m % ord g = n % ord g := by
  constructor
  · intro h
    rw [← glog_gp (bas_el h0 h4) (bas_one h0 h4) m, ← glog_gp (bas_el h0 h4) (bas_one h0 h4) n, h]
  · exact gp_congr
theorem el_gp {g a : Int} (ha : elB g a = true) : gp g (bas g) (glog g (bas g) a) = a := by
  obtain ⟨h0, h4⟩ := elB_group ha
  exact gp_glog (bas_el h0 h4) ha (bas_one h0 h4)
theorem glog_ex {g a : Int} (ha : elB g a = true) : exB g (glog g (bas g) a) = true := by
  obtain ⟨h0, h4⟩ := elB_group ha
  have s := glog_spec (bas_el h0 h4) ha (bas_one h0 h4)
  exact exB_true.2 ⟨⟨h0, h4⟩, s.1, s.2.1⟩

/-! ### KeyOf -/
theorem key_no {g s : Int} (h : exB g s = false) : keyOf g s = -1 := by simp [keyOf, h]
theorem key_yes {g s : Int} (h : exB g s = true) : keyOf g s = gp g (bas g) s := by simp [keyOf, h]
theorem key_el {g s : Int} (h : exB g s = true) : elB g (keyOf g s) = true := by
  obtain ⟨⟨h0, h4⟩, _⟩ := exB_true.1 h
  rw [key_yes h]; exact gp_el (bas_el h0 h4) s
theorem key_pos {g s : Int} (h : 0 ≤ keyOf g s) : exB g s = true := by
  cases hx : exB g s
  · rw [key_no hx] at h; omega
  · rfl
theorem key_neg {g s : Int} (h : keyOf g s < 0) : keyOf g s = -1 := by
  cases hx : exB g s
  · exact key_no hx
  · have := elB_bound (key_el hx); omega
theorem key_log {g s : Int} (h : exB g s = true) : glog g (bas g) (keyOf g s) = s := by
  obtain ⟨⟨h0, h4⟩, _⟩ := exB_true.1 h
  rw [key_yes h, glog_gp (bas_el h0 h4) (bas_one h0 h4), ex_mod h]

/-! ### talks -/
theorem tok_no {g key say ask tell : Int} (h : tokB g key say ask tell = false) : ¬ (elB g key = true ∧ elB g say = true ∧ exB g ask = true ∧ exB g tell = true ∧ gp g (bas g) tell = say * gp g key ask % prm g) := by
  intro ⟨h1, h2, h3, h4, h5⟩
  unfold tokB at h
  rw [h1, h2, h3, h4] at h
  simp at h
  exact h h5
theorem tok_yes {g key say ask tell : Int} : tokB g key say ask tell = true ↔ elB g key = true ∧ elB g say = true ∧ exB g ask = true ∧ exB g tell = true ∧ gp g (bas g) tell = say * gp g key ask % prm g := by
  unfold tokB; simp [and_assoc]
/-- A talk is right just where its answer is the one that the exponents give. -/
theorem tok_tell {g key say ask tell : Int} (hk : elB g key = true) (hs : elB g say = true) (ha : exB g ask = true) (ht : exB g tell = true) :
    tokB g key say ask tell = true ↔ tell = tellOf g (glog g (bas g) key) (glog g (bas g) say) ask := by
  obtain ⟨h0, h4⟩ := elB_group hk
  have e : say * gp g key ask % prm g = gp g (bas g) (glog g (bas g) say + ask * glog g (bas g) key) := by
    conv => lhs; rw [← el_gp hs, ← el_gp hk]
    rw [gp_gp (bas_el h0 h4), ← gp_add (bas_el h0 h4), Int.mul_comm (glog g (bas g) key) ask]
  rw [tok_yes, e]
  constructor
  · intro ⟨_, _, _, _, h⟩
    rw [gp_inj h0 h4, ex_mod ht] at h
    exact h
  · intro h
    refine ⟨hk, hs, ha, ht, ?_⟩
    rw [gp_inj h0 h4, h]
    exact Int.emod_emod_of_dvd _ (Int.dvd_refl _)
theorem tell_ex {g : Int} (h0 : 0 ≤ g) (h4 : g < 4) (s f a : Int) : exB g (tellOf g s f a) = true := ex_of_mod h0 h4 _
theorem talkOf_ok {g secret further ask : Int} (h1 : exB g secret = true) (h2 : exB g further = true) (h3 : exB g ask = true) :
    tokB g (keyOf g secret) (gp g (bas g) further) ask (tellOf g secret further ask) = true := by
  obtain ⟨⟨h0, h4⟩, _⟩ := exB_true.1 h1
  rw [tok_tell (key_el h1) (gp_el (bas_el h0 h4) _) h3 (tell_ex h0 h4 _ _ _), key_log h1, glog_gp (bas_el h0 h4) (bas_one h0 h4), ex_mod h2]
/-- The promise of TalkOk. -/
theorem tok_true_talk {g key say ask tell : Int} (hk : elB g key = true) (hs : elB g say = true) :
    tokB g key say ask tell = (exB g ask && decide (tellOf g (glog g (bas g) key) (glog g (bas g) say) ask = tell)) := by
  obtain ⟨h0, h4⟩ := elB_group hk
  cases ha : exB g ask
  · unfold tokB; rw [ha]; simp
  · by_cases e : tellOf g (glog g (bas g) key) (glog g (bas g) say) ask = tell
    · have ht : exB g tell = true := by rw [← e]; exact tell_ex h0 h4 _ _ _
      rw [(tok_tell hk hs ha ht).2 e.symm]; simp [e]
    · cases hb : tokB g key say ask tell
      · simp [e]
      · have ht := (tok_yes.1 hb).2.2.2.1
        exact absurd ((tok_tell hk hs ha ht).1 hb).symm e

/-! ### made up -/
theorem gp_zero (g a : Int) : gp g a 0 = 1 := by unfold gp; simp [pw]
theorem gp_neg_mul {g a : Int} (ha : elB g a = true) (n : Int) : gp g a n * gp g a (-n) % prm g = 1 := by rw [← gp_add ha, Int.add_right_neg, gp_zero]
theorem mulmod (a b p : Int) : a * (b % p) % p = a * b % p := by rw [Int.mul_emod, Int.emod_emod_of_dvd _ (Int.dvd_refl _), ← Int.mul_emod]
theorem modmul (a b p : Int) : a % p * b % p = a * b % p := by rw [Int.mul_emod, Int.emod_emod_of_dvd _ (Int.dvd_refl _), ← Int.mul_emod]
theorem el_mod {g a : Int} (ha : elB g a = true) : a % prm g = a := by
  obtain ⟨h1, h2, _⟩ := elB_bound ha
  exact Int.emod_eq_of_lt (by omega) h2
theorem mul_el {g a b : Int} (ha : elB g a = true) (hb : elB g b = true) : elB g (a * b % prm g) = true := by rw [← tim_yes ha hb]; exact tim_el ha hb
theorem sayUp_el {g key ask tell : Int} (hk : elB g key = true) : elB g (sayUp g key ask tell) = true := by
  obtain ⟨h0, h4⟩ := elB_group hk
  exact mul_el (gp_el (bas_el h0 h4) _) (gp_el hk _)
/-- The promise of MadeUp: of all elements just the one that is made up is right. -/
theorem made_only {g key e ask tell : Int} (hk : elB g key = true) (he : elB g e = true) (ha : exB g ask = true) (ht : exB g tell = true) : tokB g key e ask tell = decide (e = sayUp g key ask tell) := by
  obtain ⟨h0, h4⟩ := elB_group hk
  have i1 := gp_neg_mul hk ask
  by_cases h : e = sayUp g key ask tell
  · rw [decide_eq_true h]
    refine tok_yes.2 ⟨hk, he, ha, ht, ?_⟩
    rw [h]
    unfold sayUp
    rw [modmul, Int.mul_assoc, Int.mul_comm (gp g key (-ask)), ← mulmod, i1, Int.mul_one, el_mod (gp_el (bas_el h0 h4) _)]
  · rw [decide_eq_false h]
    cases hb : tokB g key e ask tell
    · rfl
    · refine absurd ?_ h
      have h5 := (tok_yes.1 hb).2.2.2.2
      unfold sayUp
      rw [h5, modmul, Int.mul_assoc, ← mulmod, i1, Int.mul_one, el_mod he]
theorem made_ok {g key ask tell : Int} (hk : elB g key = true) (ha : exB g ask = true) (ht : exB g tell = true) : tokB g key (sayUp g key ask tell) ask tell = true := by
  rw [made_only hk (sayUp_el hk) ha ht]; simp

/-! ### the secret -/
theorem secret_key {g key say a1 t1 a2 t2 : Int} (h1 : tokB g key say a1 t1 = true) (h2 : tokB g key say a2 t2 = true) (hne : a1 ≠ a2) : exB g (secretOf g a1 t1 a2 t2) = true ∧ keyOf g (secretOf g a1 t1 a2 t2) = key := by
  obtain ⟨hk, hs, e1, f1, _⟩ := tok_yes.1 h1
  obtain ⟨_, _, e2, f2, _⟩ := tok_yes.1 h2
  obtain ⟨h0, h4⟩ := elB_group hk
  have o := ord_bd h0 h4
  have hx : exB g (secretOf g a1 t1 a2 t2) = true := ex_of_mod h0 h4 _
  refine ⟨hx, ?_⟩
  have d1 := (tok_tell hk hs e1 f1).1 h1
  have d2 := (tok_tell hk hs e2 f2).1 h2
  have b1 := exB_true.1 e1
  have b2 := exB_true.1 e2
  have hd : exB g ((a1 - a2) % ord g) = true := ex_of_mod h0 h4 _
  have hnz : (a1 - a2) % ord g ≠ 0 := by
    intro h
    have := Int.emod_emod_of_dvd (a1 - a2) (Int.dvd_refl (ord g))
    have h' := Int.dvd_of_emod_eq_zero h
    obtain ⟨c, hc⟩ := h'
    have : c = 0 := by
      by_cases c1 : 0 < c
      · have := Int.mul_le_mul_of_nonneg_left (show (1 : Int) ≤ c by omega) (show 0 ≤ ord g by omega); omega
      · by_cases c2 : c < 0
        · have := Int.mul_le_mul_of_nonneg_left (show (1 : Int) ≤ -c by omega) (show 0 ≤ ord g by omega)
          rw [Int.mul_neg] at this; omega
        · omega
    rw [this] at hc; omega
  have hb : (a1 - a2) % ord g * gback g ((a1 - a2) % ord g) % ord g = 1 := by
    rcases back_prod hd with ⟨_, e⟩ | ⟨_, _, e⟩
    · exact absurd e hnz
    · exact e
  rw [key_yes hx, ← el_gp hk, gp_inj h0 h4]
  unfold secretOf
  rw [Int.emod_emod_of_dvd _ (Int.dvd_refl _)]
  generalize hL : glog g (bas g) key = L at *
  generalize hS : glog g (bas g) say = S at *
  have e3 : (t1 - t2) % ord g = (a1 - a2) % ord g * L % ord g := by
    rw [d1, d2]; unfold tellOf
    rw [← Int.sub_emod, modmul]
    congr 1
    rw [Int.sub_mul]; omega
  rw [e3, modmul, Int.mul_assoc, Int.mul_comm L, ← Int.mul_assoc, ← modmul, hb, Int.one_mul]

end Go.Proofs.YtopjlbihhbjhnaaDoor
