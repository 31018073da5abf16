/- Plain mathematics of some of many: questions on a polynomial; no program. -/
import Derived.Test.YtacalanlepjljaaDoorBPure
namespace Go.Proofs.YtacalanlepjljaaDoor

/-- There may be n elements, 'need' of them to be known. -/
structure Mny (g : Int) (n : Nat) (need : Int) : Prop where
  g0 : 0 ≤ g
  g4 : g < 4
  n1 : 1 ≤ n
  n4 : n ≤ 4
  lt : (n : Int) < ord g
  d1 : 1 ≤ need
  dn : need ≤ n
def mnyB (g : Int) (n : Nat) (need : Int) : Bool := gok g && (decide (1 ≤ n) && (decide (n ≤ 4) && (decide ((n : Int) < ord g) && (decide (1 ≤ need) && decide (need ≤ n)))))
theorem mnyB_true {g : Int} {n : Nat} {need : Int} : mnyB g n need = true ↔ Mny g n need := by
  unfold mnyB
  simp only [Bool.and_eq_true, gok_true, decide_eq_true_eq]
  exact ⟨fun ⟨⟨a, b⟩, c, d, e, f, h⟩ => ⟨a, b, c, d, e, f, h⟩, fun h => ⟨⟨h.g0, h.g4⟩, h.n1, h.n4, h.lt, h.d1, h.dn⟩⟩
theorem mnyB_false {g : Int} {n : Nat} {need : Int} (h : ¬ Mny g n need) : mnyB g n need = false := by
  cases hb : mnyB g n need
  · rfl
  · exact absurd (mnyB_true.1 hb) h
theorem mny_false {g : Int} {n : Nat} {need : Int} (h : mnyB g n need = false) : ¬ Mny g n need := fun k => by rw [mnyB_true.2 k] at h; cases h
def kysB (g : Int) (keys : List Int) (need : Int) : Bool := mnyB g keys.length need && allEl g keys
structure Kys (g : Int) (keys : List Int) (need : Int) : Prop where
  m : Mny g keys.length need
  el : allEl g keys = true
theorem kysB_true {g : Int} {keys : List Int} {need : Int} : kysB g keys need = true ↔ Kys g keys need := by
  unfold kysB
  simp only [Bool.and_eq_true, mnyB_true]
  exact ⟨fun ⟨a, b⟩ => ⟨a, b⟩, fun h => ⟨h.m, h.el⟩⟩
theorem kysB_false {g : Int} {keys : List Int} {need : Int} (h : ¬ Kys g keys need) : kysB g keys need = false := by
  cases hb : kysB g keys need
  · rfl
  · exact absurd (kysB_true.1 hb) h

/-- One factor, as a quotient of differences. -/
def lagF (g x p r : Int) : Int := (x - p) * gback g ((r - p) % ord g) % ord g
/-- One part of the sum: of the value v at the place with the number i; the first j factors. -/
def lagP (g : Int) (ps : List Int) (x v : Int) (i : Nat) : Nat → Int
  | 0 => v
  | j + 1 => if j = i then lagP g ps x v i j else lagP g ps x v i j * lagF g x (nth ps j) (nth ps i)
theorem lagP_skip (g : Int) (ps : List Int) (x v : Int) (i : Nat) : lagP g ps x v i (i + 1) = lagP g ps x v i i := by simp [lagP]
theorem lagP_step {g : Int} {ps : List Int} {x v : Int} {i j : Nat} (h : j ≠ i) : lagP g ps x v i (j + 1) = lagP g ps x v i j * lagF g x (nth ps j) (nth ps i) := by simp [lagP, h]
/-- The first i parts, added up by the order. -/
def lagTo (g : Int) (ps vs : List Int) (x : Int) : Nat → Int
  | 0 => 0
  | i + 1 => (lagTo g ps vs x i + lagP g ps x (nth vs i) i ps.length) % ord g
theorem lagTo_succ (g : Int) (ps vs : List Int) (x : Int) (i : Nat) : lagTo g ps vs x (i + 1) = (lagTo g ps vs x i + lagP g ps x (nth vs i) i ps.length) % ord g := rfl
def lag (g : Int) (ps vs : List Int) (x : Int) : Int := lagTo g ps vs x ps.length
theorem lagF_bd {g : Int} (h0 : 0 ≤ g) (h4 : g < 4) (x p r : Int) : 0 ≤ lagF g x p r ∧ lagF g x p r < ord g := by
  have := ord_bd h0 h4
  exact ⟨Int.emod_nonneg _ (by omega), Int.emod_lt_of_pos _ (by omega)⟩
theorem lagP_bd {g : Int} (h0 : 0 ≤ g) (h4 : g < 4) {ps : List Int} {x v : Int} {i : Nat} (v0 : 0 ≤ v) (v1 : v ≤ 22) : ∀ j, 0 ≤ lagP g ps x v i j ∧ lagP g ps x v i j ≤ 22 * 22 ^ j
  | 0 => by simp [lagP]; omega
  | j + 1 => by
    obtain ⟨a, b⟩ := lagP_bd h0 h4 (ps := ps) (x := x) (i := i) v0 v1 j
    have ho := ord_bd h0 h4
    have hp : (22 : Int) ^ (j + 1) = 22 ^ j * 22 := Int.pow_succ _ _
    have hp0 : (0 : Int) ≤ 22 ^ j := Int.pow_nonneg (by omega)
    by_cases e : j = i
    · subst e; rw [lagP_skip, hp]; omega
    · rw [lagP_step e, hp]
      obtain ⟨c, d⟩ := lagF_bd h0 h4 x (nth ps j) (nth ps i)
      refine ⟨Int.mul_nonneg a c, ?_⟩
      calc lagP g ps x v i j * lagF g x (nth ps j) (nth ps i) ≤ (22 * 22 ^ j) * 22 := Int.mul_le_mul b (by omega) c (by omega)
        _ = 22 * (22 ^ j * 22) := by grind
theorem lagTo_bd {g : Int} (h0 : 0 ≤ g) (h4 : g < 4) {ps vs : List Int} {x : Int} : ∀ i, 0 ≤ lagTo g ps vs x i ∧ lagTo g ps vs x i < ord g
  | 0 => by have := ord_bd h0 h4; simp [lagTo]; omega
  | i + 1 => by
    have := ord_bd h0 h4
    rw [lagTo_succ]; exact ⟨Int.emod_nonneg _ (by omega), Int.emod_lt_of_pos _ (by omega)⟩
theorem lag_ex {g : Int} (h0 : 0 ≤ g) (h4 : g < 4) (ps vs : List Int) (x : Int) : exB g (lag g ps vs x) = true := exB_true.2 ⟨⟨h0, h4⟩, (lagTo_bd h0 h4 _).1, (lagTo_bd h0 h4 _).2⟩

/-- As the model reckons it: reduced at each step, with a power for the inverse. -/
def lagQ (g : Int) (ps : List Int) (x v : Int) (i : Nat) : Nat → Int
  | 0 => v
  | j + 1 => if j = i then lagQ g ps x v i j else lagQ g ps x v i j * (x - nth ps j) % ord g * pw (ord g) ((nth ps i - nth ps j) % ord g) (ord g - 2).toNat % ord g
theorem lagQ_skip (g : Int) (ps : List Int) (x v : Int) (i : Nat) : lagQ g ps x v i (i + 1) = lagQ g ps x v i i := by simp [lagQ]
theorem lagQ_step {g : Int} {ps : List Int} {x v : Int} {i j : Nat} (h : j ≠ i) : lagQ g ps x v i (j + 1) = lagQ g ps x v i j * (x - nth ps j) % ord g * pw (ord g) ((nth ps i - nth ps j) % ord g) (ord g - 2).toNat % ord g := by simp [lagQ, h]
theorem lagQ_bd {g : Int} (h0 : 0 ≤ g) (h4 : g < 4) {ps : List Int} {x v : Int} {i : Nat} (v0 : 0 ≤ v) (v1 : v ≤ 22) : ∀ j, 0 ≤ lagQ g ps x v i j ∧ lagQ g ps x v i j ≤ 22
  | 0 => by simp [lagQ]; omega
  | j + 1 => by
    have ho := ord_bd h0 h4
    by_cases e : j = i
    · subst e; rw [lagQ_skip]; exact lagQ_bd h0 h4 v0 v1 j
    · rw [lagQ_step e]
      have h1 := Int.emod_nonneg (lagQ g ps x v i j * (x - nth ps j) % ord g * pw (ord g) ((nth ps i - nth ps j) % ord g) (ord g - 2).toNat) (show ord g ≠ 0 by omega)
      have h2 := Int.emod_lt_of_pos (lagQ g ps x v i j * (x - nth ps j) % ord g * pw (ord g) ((nth ps i - nth ps j) % ord g) (ord g - 2).toNat) (show 0 < ord g by omega)
      omega
theorem Cg.times {q a b c d : Int} (h : Cg q a b) (k : Cg q c d) : Cg q (a * c) (b * d) := by
  obtain ⟨x, rfl⟩ := h; obtain ⟨y, rfl⟩ := k; exact ⟨x * d + b * y + q * x * y, by grind⟩
/-- Places that are different by the order. -/
def Apart (g : Int) (ps : List Int) : Prop := ∀ i j, i < ps.length → j < ps.length → j ≠ i → (nth ps i - nth ps j) % ord g ≠ 0
theorem lagQ_is {g : Int} (h0 : 0 ≤ g) (h4 : g < 4) {ps : List Int} {x v : Int} {i : Nat} (hp : Apart g ps) (hi : i < ps.length) : ∀ j, j ≤ ps.length → Cg (ord g) (lagQ g ps x v i j) (lagP g ps x v i j)
  | 0, _ => Cg.refl _ _
  | j + 1, hj => by
    have ih := lagQ_is h0 h4 (x := x) (v := v) hp hi j (by omega)
    by_cases e : j = i
    · subst e; rw [lagQ_skip, lagP_skip]; exact ih
    · rw [lagQ_step e, lagP_step e]
      have hd := hp i j hi (by omega) e
      have hx : exB g ((nth ps i - nth ps j) % ord g) = true := ex_of_mod h0 h4 _
      rw [← gback_pow hx hd]
      unfold lagF
      refine (Cg.rem _ _).trans ?_
      refine ((Cg.rem _ _).times (Cg.refl _ _)).trans ?_
      refine Cg.trans ?_ (ih.times (Cg.rem _ _).symm)
      exact ⟨0, by grind⟩
/-- The model's sum. -/
def lagR (g : Int) (ps vs : List Int) (x : Int) : Nat → Int
  | 0 => 0
  | i + 1 => (lagR g ps vs x i + lagQ g ps x (nth vs i) i ps.length) % ord g
theorem lagR_succ (g : Int) (ps vs : List Int) (x : Int) (i : Nat) : lagR g ps vs x (i + 1) = (lagR g ps vs x i + lagQ g ps x (nth vs i) i ps.length) % ord g := rfl
theorem lagR_is {g : Int} (h0 : 0 ≤ g) (h4 : g < 4) {ps vs : List Int} {x : Int} (hp : Apart g ps) : ∀ i, i ≤ ps.length → lagR g ps vs x i = lagTo g ps vs x i
  | 0, _ => rfl
  | i + 1, hi => by
    rw [lagR_succ, lagTo_succ, lagR_is h0 h4 hp i (by omega)]
    exact cg_mod.2 (Cg.add (Cg.refl _ _) (lagQ_is h0 h4 hp (by omega) _ (Nat.le_refl _)))
theorem lagR_bd {g : Int} (h0 : 0 ≤ g) (h4 : g < 4) {ps vs : List Int} {x : Int} : ∀ i, 0 ≤ lagR g ps vs x i ∧ lagR g ps vs x i < ord g
  | 0 => by have := ord_bd h0 h4; simp [lagR]; omega
  | i + 1 => by
    have := ord_bd h0 h4
    rw [lagR_succ]; exact ⟨Int.emod_nonneg _ (by omega), Int.emod_lt_of_pos _ (by omega)⟩

/-- The places 0, 1 and so on. -/
def nodes : Nat → List Int
  | 0 => [0]
  | m + 1 => nodes m ++ [((m : Int) + 1)]
theorem nodes_len : ∀ m, (nodes m).length = m + 1
  | 0 => rfl
  | m + 1 => by unfold nodes; rw [List.length_append, nodes_len m]; rfl
theorem nodes_nth : ∀ m k, k ≤ m → nth (nodes m) k = (k : Int)
  | 0, k, h => by obtain rfl : k = 0 := by omega
                  rfl
  | m + 1, k, h => by
    unfold nodes
    rw [nth_app, nodes_len]
    by_cases e : k < m + 1
    · rw [if_pos e]; exact nodes_nth m k (by omega)
    · obtain rfl : k = m + 1 := by omega
      rw [if_neg e, if_pos rfl]; simp
/-- The whole question, and the first m others. -/
def frees (ask : Int) (asks : List Int) : Nat → List Int
  | 0 => [ask]
  | m + 1 => frees ask asks m ++ [nth asks m]
theorem frees_len (ask : Int) (asks : List Int) : ∀ m, (frees ask asks m).length = m + 1
  | 0 => rfl
  | m + 1 => by unfold frees; rw [List.length_append, frees_len ask asks m]; rfl
theorem frees_nth (ask : Int) (asks : List Int) : ∀ m k, k ≤ m → nth (frees ask asks m) k = if k = 0 then ask else nth asks (k - 1)
  | 0, k, h => by obtain rfl : k = 0 := by omega
                  rfl
  | m + 1, k, h => by
    unfold frees
    rw [nth_app, frees_len]
    by_cases e : k < m + 1
    · rw [if_pos e]; exact frees_nth ask asks m k (by omega)
    · obtain rfl : k = m + 1 := by omega
      rw [if_neg e, if_pos rfl, if_neg (by omega)]; rfl
end Go.Proofs.YtacalanlepjljaaDoor
