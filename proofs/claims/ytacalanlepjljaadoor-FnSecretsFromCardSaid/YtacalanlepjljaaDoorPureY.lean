/- Plain mathematics of some of many: which questions line up; finite checks of places. -/
import Derived.Test.YtacalanlepjljaaDoorPureX
namespace Go.Proofs.YtacalanlepjljaaDoor

def apB (g : Int) (ps : List Int) : Bool := (List.range ps.length).all fun i => (List.range ps.length).all fun j => i == j || decide ((nth ps i - nth ps j) % ord g ≠ 0)
theorem apB_apart {g : Int} {ps : List Int} (h : apB g ps = true) : Apart g ps := fun i j hi hj hne => by
  have := List.all_eq_true.1 (List.all_eq_true.1 h i (List.mem_range.2 hi)) j (List.mem_range.2 hj)
  simp only [Bool.or_eq_true, beq_iff_eq, decide_eq_true_eq] at this
  rcases this with e | e
  · exact absurd e.symm hne
  · exact e
theorem apart_ne {g : Int} {ps : List Int} (h : Apart g ps) {i j : Nat} (hi : i < ps.length) (hj : j < ps.length) (hne : j ≠ i) : nth ps i ≠ nth ps j := fun e => h i j hi hj hne (by rw [e]; simp)

/-- The places 0, and k + 1 for each number k below n that f names. -/
def plB (f : Nat → Bool) : Nat → List Int
  | 0 => [0]
  | k + 1 => if f k then plB f k ++ [((k : Int) + 1)] else plB f k
theorem plB_yes {f : Nat → Bool} {k : Nat} (h : f k = true) : plB f (k + 1) = plB f k ++ [((k : Int) + 1)] := by simp [plB, h]
theorem plB_no {f : Nat → Bool} {k : Nat} (h : f k = false) : plB f (k + 1) = plB f k := by simp [plB, h]
theorem plB_congr {f h : Nat → Bool} : ∀ {n : Nat}, (∀ k, k < n → f k = h k) → plB f n = plB h n
  | 0, _ => rfl
  | n + 1, e => by
    have ih := plB_congr (n := n) fun k hk => e k (by omega)
    unfold plB
    rw [ih, e n (by omega)]
theorem plB_nodes : ∀ {f : Nat → Bool} {m : Nat}, (∀ k, k < m → f k = true) → plB f m = nodes m
  | _, 0, _ => rfl
  | f, m + 1, e => by rw [plB_yes (e m (by omega)), plB_nodes (f := f) (m := m) fun k hk => e k (by omega)]; rfl
theorem plB_nodes_at {f : Nat → Bool} {m n : Nat} (h1 : ∀ k, k < m → f k = true) (h2 : ∀ k, m ≤ k → k < n → f k = false) (hm : m ≤ n) : plB f n = nodes m := by
  induction n with
  | zero => obtain rfl : m = 0 := by omega
            rfl
  | succ n ih =>
    by_cases e : m = n + 1
    · subst e; exact plB_nodes h1
    · rw [plB_no (h2 n (by omega) (by omega))]; exact ih (fun k a b => h2 k a (by omega)) (by omega)
theorem plB_len_pos (f : Nat → Bool) : ∀ n, 1 ≤ (plB f n).length ∧ (plB f n).length ≤ n + 1
  | 0 => by simp [plB]
  | n + 1 => by
    have ih := plB_len_pos f n
    cases h : f n
    · rw [plB_no h]; omega
    · rw [plB_yes h, List.length_append]; simp; omega
theorem plB_bd (f : Nat → Bool) : ∀ n j, j < (plB f n).length → 0 ≤ nth (plB f n) j ∧ nth (plB f n) j ≤ n
  | 0, j, h => by obtain rfl : j = 0 := by simp [plB] at h; exact h
                  simp [plB, nth]
  | n + 1, j, h => by
    cases hf : f n
    · rw [plB_no hf] at h ⊢; have := plB_bd f n j h; omega
    · rw [plB_yes hf] at h ⊢
      rw [nth_app]
      by_cases e : j < (plB f n).length
      · rw [if_pos e]; have := plB_bd f n j e; omega
      · obtain rfl : j = (plB f n).length := by simp at h; omega
        rw [if_neg e, if_pos rfl]; omega
/-- Numbers below 16 name all choices of four. -/
theorem bits_of (f : Nat → Bool) : ∃ c : Fin 16, ∀ k, k < 4 → f k = Nat.testBit c.val k := by
  have h : ∀ a b d e : Bool, ∃ c : Fin 16, Nat.testBit c.val 0 = a ∧ Nat.testBit c.val 1 = b ∧ Nat.testBit c.val 2 = d ∧ Nat.testBit c.val 3 = e := by decide
  obtain ⟨c, h0, h1, h2, h3⟩ := h (f 0) (f 1) (f 2) (f 3)
  refine ⟨c, fun k hk => ?_⟩
  rcases (show k = 0 ∨ k = 1 ∨ k = 2 ∨ k = 3 by omega) with rfl | rfl | rfl | rfl
  · exact h0.symm
  · exact h1.symm
  · exact h2.symm
  · exact h3.symm
theorem apAll : ∀ g : Fin 4, ∀ n : Fin 5, (n.val : Int) < ord g.val → ∀ c : Fin 16, apB g.val (plB (Nat.testBit c.val) n.val) = true := by decide +kernel
theorem plB_apart {g : Int} (h0 : 0 ≤ g) (h4 : g < 4) {n : Nat} (hn : n ≤ 4) (hl : (n : Int) < ord g) (f : Nat → Bool) : Apart g (plB f n) := by
  obtain ⟨c, hc⟩ := bits_of f
  have e : ((⟨g.toNat, by omega⟩ : Fin 4).val : Int) = g := by show ((g.toNat : Nat) : Int) = g; omega
  have := apAll ⟨g.toNat, by omega⟩ ⟨n, by omega⟩ (by rw [e]; exact hl) c
  rw [e] at this
  rw [plB_congr (h := Nat.testBit c.val) fun k hk => hc k (by omega)]
  exact apB_apart this
theorem nodes_apart {g : Int} (h0 : 0 ≤ g) (h4 : g < 4) {m : Nat} (hn : m ≤ 4) (hl : (m : Int) < ord g) : Apart g (nodes m) := by
  rw [← plB_nodes (f := fun _ => true) fun _ _ => rfl]; exact plB_apart h0 h4 hn hl _
theorem ndAll : ∀ g : Fin 4, ∀ m : Fin 5, (m.val : Int) < ord g.val → ndB g.val (nodes m.val) = true := by decide +kernel
theorem nodes_nd {g : Int} (h0 : 0 ≤ g) (h4 : g < 4) {m : Nat} (hn : m ≤ 4) (hl : (m : Int) < ord g) : ndB g (nodes m) = true := by
  have e : ((⟨g.toNat, by omega⟩ : Fin 4).val : Int) = g := by show ((g.toNat : Nat) : Int) = g; omega
  have := ndAll ⟨g.toNat, by omega⟩ ⟨m, by omega⟩ (by rw [e]; exact hl)
  rwa [e] at this

/-- The whole question and the first m others tell all of n. -/
def upB (g : Int) (m n : Nat) (ask : Int) (asks : List Int) : Bool := (List.range n).all fun k => decide (lag g (nodes m) (frees ask asks m) ((k : Int) + 1) = nth asks k)
theorem upB_true {g : Int} {m n : Nat} {ask : Int} {asks : List Int} : upB g m n ask asks = true ↔ ∀ k, k < n → lag g (nodes m) (frees ask asks m) ((k : Int) + 1) = nth asks k := by
  unfold upB
  rw [List.all_eq_true]
  exact ⟨fun h k hk => of_decide_eq_true (h k (List.mem_range.2 hk)), fun h k hk => decide_eq_true (h k (List.mem_range.1 hk))⟩
theorem upB_false {g : Int} {m n : Nat} {ask : Int} {asks : List Int} {k : Nat} (hk : k < n) (h : lag g (nodes m) (frees ask asks m) ((k : Int) + 1) ≠ nth asks k) : upB g m n ask asks = false := by
  cases hu : upB g m n ask asks
  · rfl
  · exact absurd (upB_true.1 hu k hk) h
/-- As many others as need not be known. -/
def leadN (n : Nat) (need : Int) : Nat := ((n : Int) - need).toNat
def linB (g need ask : Int) (asks : List Int) : Bool := mnyB g asks.length need && (exB g ask && (allEx g asks && upB g (leadN asks.length need) asks.length ask asks))
structure Lin (g need ask : Int) (asks : List Int) : Prop where
  m : Mny g asks.length need
  a : exB g ask = true
  ex : allEx g asks = true
  up : upB g (leadN asks.length need) asks.length ask asks = true
theorem linB_true {g need ask : Int} {asks : List Int} : linB g need ask asks = true ↔ Lin g need ask asks := by
  unfold linB
  simp only [Bool.and_eq_true, mnyB_true]
  exact ⟨fun ⟨a, b, c, d⟩ => ⟨a, b, c, d⟩, fun h => ⟨h.m, h.a, h.ex, h.up⟩⟩
theorem linB_false {g need ask : Int} {asks : List Int} (h : ¬ Lin g need ask asks) : linB g need ask asks = false := by
  cases hb : linB g need ask asks
  · rfl
  · exact absurd (linB_true.1 hb) h
theorem linB_no1 {g need : Int} {asks : List Int} (ask : Int) (h : mnyB g asks.length need = false) : linB g need ask asks = false := by unfold linB; rw [h]; rfl
theorem linB_no2 {g need ask : Int} {asks : List Int} (h : exB g ask = false) : linB g need ask asks = false := by unfold linB; rw [h]; simp
theorem linB_no3 {g need ask : Int} {asks : List Int} (h : allEx g asks = false) : linB g need ask asks = false := by unfold linB; rw [h]; simp
theorem linB_yes {g need ask : Int} {asks : List Int} (h1 : mnyB g asks.length need = true) (h2 : exB g ask = true) (h3 : allEx g asks = true) : linB g need ask asks = upB g (leadN asks.length need) asks.length ask asks := by unfold linB; rw [h1, h2, h3]; rfl
theorem Mny.ldN {g need : Int} {n : Nat} (h : Mny g n need) : leadN n need < n ∧ leadN n need ≤ 3 ∧ (leadN n need : Int) = n - need ∧ ((leadN n need : Nat) : Int) < ord g := by
  have h1 := h.d1; have h2 := h.dn; have h3 := h.n4; have h4 := h.lt
  unfold leadN
  omega
/-- At its own places the polynomial has its values. -/
theorem lag_own {g ask : Int} {asks : List Int} (h0 : 0 ≤ g) (h4 : g < 4) {m k : Nat} (hm : m ≤ 4) (hl : (m : Int) < ord g) (hk : k < m) (hx : exB g (nth asks k) = true) : lag g (nodes m) (frees ask asks m) ((k : Int) + 1) = nth asks k := by
  have h := lag_node (vs := frees ask asks m) (k := k + 1) (by rw [nodes_len]; omega) (nodes_nd h0 h4 hm hl)
  rw [nodes_nth m (k + 1) (by omega), frees_nth ask asks m (k + 1) (by omega), if_neg (by omega)] at h
  obtain ⟨_, e0, e1⟩ := exB_true.1 hx
  obtain ⟨_, l0, l1⟩ := exB_true.1 (lag_ex h0 h4 (nodes m) (frees ask asks m) ((k : Int) + 1))
  have e : ((k + 1 : Nat) : Int) = (k : Int) + 1 := by omega
  rw [e] at h
  exact cg_small h l0 l1 e0 e1
end Go.Proofs.YtacalanlepjljaaDoor
