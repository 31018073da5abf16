/- PureV, PureX, PureY, in one text. -/
import Derived.Test.YtljekapbcphdaabDoorBPure
/- Plain mathematics of some of many: questions on a polynomial; no program. -/
namespace Go.Proofs.YtljekapbcphdaabDoor

/-- There may be n elements, 'need' of them to be known. -/
structure Mny (g : Int) (n : Nat) (need : Int) : Prop where
  g0 : 0 ≤ g
  g4 : g < 4
  n1 : 1 ≤ n
  n4 : n ≤ 4
  lt : (n : Int) < ord g
  d1 : 1 ≤ need
  dn : need ≤ n
def mnyB (g : Int) (n : Nat) (need : Int) : Bool := gok g && (decide (1 ≤ n) && (decide (n ≤ 4) && (decide ((n : Int) < ord g) && (decide (1 ≤ need) && decide (need ≤ n)))))
theorem mnyB_true {g : Int} {n : Nat} {need : Int} : mnyB g n need = true ↔ Mny g n need := by
  unfold mnyB
  simp only [Bool.and_eq_true, gok_true, decide_eq_true_eq]
  exact ⟨fun ⟨⟨a, b⟩, c, d, e, f, h⟩ => ⟨a, b, c, d, e, f, h⟩, fun h => ⟨⟨h.g0, h.g4⟩, h.n1, h.n4, h.lt, h.d1, h.dn⟩⟩
theorem mnyB_false {g : Int} {n : Nat} {need : Int} (h : ¬ Mny g n need) : mnyB g n need = false := by
  cases hb : mnyB g n need
  · rfl
  · exact absurd (mnyB_true.1 hb) h
theorem mny_false {g : Int} {n : Nat} {need : Int} (h : mnyB g n need = false) : ¬ Mny g n need := fun k => by rw [mnyB_true.2 k] at h; cases h
def kysB (g : Int) (keys : List Int) (need : Int) : Bool := mnyB g keys.length need && allEl g keys
structure Kys (g : Int) (keys : List Int) (need : Int) : Prop where
  m : Mny g keys.length need
  el : allEl g keys = true
theorem kysB_true {g : Int} {keys : List Int} {need : Int} : kysB g keys need = true ↔ Kys g keys need := by
  unfold kysB
  simp only [Bool.and_eq_true, mnyB_true]
  exact ⟨fun ⟨a, b⟩ => ⟨a, b⟩, fun h => ⟨h.m, h.el⟩⟩
theorem kysB_false {g : Int} {keys : List Int} {need : Int} (h : ¬ Kys g keys need) : kysB g keys need = false := by
  cases hb : kysB g keys need
  · rfl
  · exact absurd (kysB_true.1 hb) h

/-- One factor, as a quotient of differences. -/
def lagF (g x p r : Int) : Int := (x - p) * gback g ((r - p) % ord g) % ord g
/-- One part of the sum: of the value v at the place with the number i; the first j factors. -/
def lagP (g : Int) (ps : List Int) (x v : Int) (i : Nat) : Nat → Int
  | 0 => v
  | j + 1 => if j = i then lagP g ps x v i j else lagP g ps x v i j * lagF g x (nth ps j) (nth ps i)
theorem lagP_skip (g : Int) (ps : List Int) (x v : Int) (i : Nat) : lagP g ps x v i (i + 1) = lagP g ps x v i i := by simp [lagP]
theorem lagP_step {g : Int} {ps : List Int} {x v : Int} {i j : Nat} (h : j ≠ i) : lagP g ps x v i (j + 1) = lagP g ps x v i j * lagF g x (nth ps j) (nth ps i) := by simp [lagP, h]
/-- The first i parts, added up by the order. -/
def lagTo (g : Int) (ps vs : List Int) (x : Int) : Nat → Int
  | 0 => 0
  | i + 1 => (lagTo g ps vs x i + lagP g ps x (nth vs i) i ps.length) % ord g
theorem lagTo_succ (g : Int) (ps vs : List Int) (x : Int) (i : Nat) : lagTo g ps vs x (i + 1) = (lagTo g ps vs x i + lagP g ps x (nth vs i) i ps.length) % ord g := rfl
def lag (g : Int) (ps vs : List Int) (x : Int) : Int := lagTo g ps vs x ps.length
theorem lagF_bd {g : Int} (h0 : 0 ≤ g) (h4 : g < 4) (x p r : Int) : 0 ≤ lagF g x p r ∧ lagF g x p r < ord g := by
  have := ord_bd h0 h4
  exact ⟨Int.emod_nonneg _ (by omega), Int.emod_lt_of_pos _ (by omega)⟩
theorem lagP_bd {g : Int} (h0 : 0 ≤ g) (h4 : g < 4) {ps : List Int} {x v : Int} {i : Nat} (v0 : 0 ≤ v) (v1 : v ≤ 22) : ∀ j, 0 ≤ lagP g ps x v i j ∧ lagP g ps x v i j ≤ 22 * 22 ^ j
  | 0 => by simp [lagP]; omega
  | j + 1 => by
    obtain ⟨a, b⟩ := lagP_bd h0 h4 (ps := ps) (x := x) (i := i) v0 v1 j
    have ho := ord_bd h0 h4
    have hp : (22 : Int) ^ (j + 1) = 22 ^ j * 22 := Int.pow_succ _ _
    have hp0 : (0 : Int) ≤ 22 ^ j := Int.pow_nonneg (by omega)
    by_cases e : j = i
    · subst e; rw [lagP_skip, hp]; omega
    · rw [lagP_step e, hp]
      obtain ⟨c, d⟩ := lagF_bd h0 h4 x (nth ps j) (nth ps i)
      refine ⟨Int.mul_nonneg a c, ?_⟩
      calc lagP g ps x v i j * lagF g x (nth ps j) (nth ps i) ≤ (22 * 22 ^ j) * 22 := Int.mul_le_mul b (by omega) c (by omega)
        _ = 22 * (22 ^ j * 22) := by grind
theorem lagTo_bd {g : Int} (h0 : 0 ≤ g) (h4 : g < 4) {ps vs : List Int} {x : Int} : ∀ i, 0 ≤ lagTo g ps vs x i ∧ lagTo g ps vs x i < ord g
  | 0 => by have := ord_bd h0 h4; simp [lagTo]; omega
  | i + 1 => by
    have := ord_bd h0 h4
    rw [lagTo_succ]; exact ⟨Int.emod_nonneg _ (by omega), Int.emod_lt_of_pos _ (by omega)⟩
theorem lag_ex {g : Int} (h0 : 0 ≤ g) (h4 : g < 4) (ps vs : List Int) (x : Int) : exB g (lag g ps vs x) = true := exB_true.2 ⟨⟨h0, h4⟩, (lagTo_bd h0 h4 _).1, (lagTo_bd h0 h4 _).2⟩

/-- As the model reckons it: reduced at each step, with a power for the inverse. -/
def lagQ (g : Int) (ps : List Int) (x v : Int) (i : Nat) : Nat → Int
  | 0 => v
  | j + 1 => if j = i then lagQ g ps x v i j else lagQ g ps x v i j * (x - nth ps j) % ord g * pw (ord g) ((nth ps i - nth ps j) % ord g) (ord g - 2).toNat % ord g
theorem lagQ_skip (g : Int) (ps : List Int) (x v : Int) (i : Nat) : lagQ g ps x v i (i + 1) = lagQ g ps x v i i := by simp [lagQ]
theorem lagQ_step {g : Int} {ps : List Int} {x v : Int} {i j : Nat} (h : j ≠ i) : lagQ g ps x v i (j + 1) = lagQ g ps x v i j * (x - nth ps j) % ord g * pw (ord g) ((nth ps i - nth ps j) % ord g) (ord g - 2).toNat % ord g := by simp [lagQ, h]
theorem lagQ_bd {g : Int} (h0 : 0 ≤ g) (h4 : g < 4) {ps : List Int} {x v : Int} {i : Nat} (v0 : 0 ≤ v) (v1 : v ≤ 22) : ∀ j, 0 ≤ lagQ g ps x v i j ∧ lagQ g ps x v i j ≤ 22
  | 0 => by simp [lagQ]; omega
  | j + 1 => by
    have ho := ord_bd h0 h4
    by_cases e : j = i
    · subst e; rw [lagQ_skip]; exact lagQ_bd h0 h4 v0 v1 j
    · rw [lagQ_step e]
      have h1 := Int.emod_nonneg (lagQ g ps x v i j * (x - nth ps j) % ord g * pw (ord g) ((nth ps i - nth ps j) % ord g) (ord g - 2).toNat) (show ord g ≠ 0 by omega)
      have h2 := Int.emod_lt_of_pos (lagQ g ps x v i j * (x - nth ps j) % ord g * pw (ord g) ((nth ps i - nth ps j) % ord g) (ord g - 2).toNat) (show 0 < ord g by omega)
      omega
theorem Cg.times {q a b c d : Int} (h : Cg q a b) (k : Cg q c d) : Cg q (a * c) (b * d) := by
  obtain ⟨x, rfl⟩ := h; obtain ⟨y, rfl⟩ := k; exact ⟨x * d + b * y + q * x * y, by grind⟩
/-- Places that are different by the order. -/
def Apart (g : Int) (ps : List Int) : Prop := ∀ i j, i < ps.length → j < ps.length → j ≠ i → (nth ps i - nth ps j) % ord g ≠ 0
theorem lagQ_is {g : Int} (h0 : 0 ≤ g) (h4 : g < 4) {ps : List Int} {x v : Int} {i : Nat} (hp : Apart g ps) (hi : i < ps.length) : ∀ j, j ≤ ps.length → Cg (ord g) (lagQ g ps x v i j) (lagP g ps x v i j)
  | 0, _ => Cg.refl _ _
  | j + 1, hj => by
    have ih := lagQ_is h0 h4 (x := x) (v := v) hp hi j (by omega)
    by_cases e : j = i
    · subst e; rw [lagQ_skip, lagP_skip]; exact ih
    · rw [lagQ_step e, lagP_step e]
      have hd := hp i j hi (by omega) e
      have hx : exB g ((nth ps i - nth ps j) % ord g) = true := ex_of_mod h0 h4 _
      rw [← gback_pow hx hd]
      unfold lagF
      refine (Cg.rem _ _).trans ?_
      refine ((Cg.rem _ _).times (Cg.refl _ _)).trans ?_
      refine Cg.trans ?_ (ih.times (Cg.rem _ _).symm)
      exact ⟨0, by grind⟩
/-- The model's sum. -/
def lagR (g : Int) (ps vs : List Int) (x : Int) : Nat → Int
  | 0 => 0
  | i + 1 => (lagR g ps vs x i + lagQ g ps x (nth vs i) i ps.length) % ord g
theorem lagR_succ (g : Int) (ps vs : List Int) (x : Int) (i : Nat) : lagR g ps vs x (i + 1) = (lagR g ps vs x i + lagQ g ps x (nth vs i) i ps.length) % ord g := rfl
theorem lagR_is {g : Int} (h0 : 0 ≤ g) (h4 : g < 4) {ps vs : List Int} {x : Int} (hp : Apart g ps) : ∀ i, i ≤ ps.length → lagR g ps vs x i = lagTo g ps vs x i
  | 0, _ => rfl
  | i + 1, hi => by
    rw [lagR_succ, lagTo_succ, lagR_is h0 h4 hp i (by omega)]
    exact cg_mod.2 (Cg.add (Cg.refl _ _) (lagQ_is h0 h4 hp (by omega) _ (Nat.le_refl _)))
theorem lagR_bd {g : Int} (h0 : 0 ≤ g) (h4 : g < 4) {ps vs : List Int} {x : Int} : ∀ i, 0 ≤ lagR g ps vs x i ∧ lagR g ps vs x i < ord g
  | 0 => by have := ord_bd h0 h4; simp [lagR]; omega
  | i + 1 => by
    have := ord_bd h0 h4
    rw [lagR_succ]; exact ⟨Int.emod_nonneg _ (by omega), Int.emod_lt_of_pos _ (by omega)⟩

/-- The places 0, 1 and so on. -/
def nodes : Nat → List Int
  | 0 => [0]
  | m + 1 => nodes m ++ [((m : Int) + 1)]
theorem nodes_len : ∀ m, (nodes m).length = m + 1
  | 0 => rfl
  | m + 1 => by unfold nodes; rw [List.length_append, nodes_len m]; rfl
theorem nodes_nth : ∀ m k, k ≤ m → nth (nodes m) k = (k : Int)
  | 0, k, h => by obtain rfl : k = 0 := by omega
                  rfl
  | m + 1, k, h => by
    unfold nodes
    rw [nth_app, nodes_len]
    by_cases e : k < m + 1
    · rw [if_pos e]; exact nodes_nth m k (by omega)
    · obtain rfl : k = m + 1 := by omega
      rw [if_neg e, if_pos rfl]; simp
/-- The whole question, and the first m others. -/
def frees (ask : Int) (asks : List Int) : Nat → List Int
  | 0 => [ask]
  | m + 1 => frees ask asks m ++ [nth asks m]
theorem frees_len (ask : Int) (asks : List Int) : ∀ m, (frees ask asks m).length = m + 1
  | 0 => rfl
  | m + 1 => by unfold frees; rw [List.length_append, frees_len ask asks m]; rfl
theorem frees_nth (ask : Int) (asks : List Int) : ∀ m k, k ≤ m → nth (frees ask asks m) k = if k = 0 then ask else nth asks (k - 1)
  | 0, k, h => by obtain rfl : k = 0 := by omega
                  rfl
  | m + 1, k, h => by
    unfold frees
    rw [nth_app, frees_len]
    by_cases e : k < m + 1
    · rw [if_pos e]; exact frees_nth ask asks m k (by omega)
    · obtain rfl : k = m + 1 := by omega
      rw [if_neg e, if_pos rfl, if_neg (by omega)]; rfl
end Go.Proofs.YtljekapbcphdaabDoor

/- Plain mathematics of some of many: values on a polynomial, told by other places of it. -/
namespace Go.Proofs.YtljekapbcphdaabDoor

/-- Sums. -/
def sumI (f : Nat → Int) : Nat → Int
  | 0 => 0
  | n + 1 => sumI f n + f n
theorem sumI_succ (f : Nat → Int) (n : Nat) : sumI f (n + 1) = sumI f n + f n := rfl
theorem sumI_congr {f h : Nat → Int} : ∀ {n : Nat}, (∀ k, k < n → f k = h k) → sumI f n = sumI h n
  | 0, _ => rfl
  | n + 1, e => by rw [sumI_succ, sumI_succ, sumI_congr fun k hk => e k (by omega), e n (by omega)]
theorem sumI_cg {q : Int} {f h : Nat → Int} : ∀ {n : Nat}, (∀ k, k < n → Cg q (f k) (h k)) → Cg q (sumI f n) (sumI h n)
  | 0, _ => Cg.refl _ _
  | n + 1, e => (sumI_cg fun k hk => e k (by omega)).add (e n (by omega))
theorem sumI_add (f h : Nat → Int) : ∀ n, sumI (fun k => f k + h k) n = sumI f n + sumI h n
  | 0 => rfl
  | n + 1 => by rw [sumI_succ, sumI_succ, sumI_succ, sumI_add f h n]; omega
theorem sumI_mul (c : Int) (f : Nat → Int) : ∀ n, sumI (fun k => c * f k) n = c * sumI f n
  | 0 => by simp [sumI]
  | n + 1 => by rw [sumI_succ, sumI_succ, sumI_mul c f n, Int.mul_add]
theorem sumI_zero : ∀ n, sumI (fun _ => 0) n = 0
  | 0 => rfl
  | n + 1 => by rw [sumI_succ, sumI_zero n]; rfl
theorem sumI_swap (f : Nat → Nat → Int) (m : Nat) : ∀ n, sumI (fun k => sumI (fun j => f k j) m) n = sumI (fun j => sumI (fun k => f k j) n) m
  | 0 => by
    show 0 = sumI (fun _ => (0 : Int)) m
    rw [sumI_zero]
  | n + 1 => by
    rw [sumI_succ, sumI_swap f m n, ← sumI_add]
    exact sumI_congr fun j _ => rfl

theorem lagP_val (g : Int) (ps : List Int) (x v : Int) (i : Nat) : ∀ j, lagP g ps x v i j = v * lagP g ps x 1 i j
  | 0 => by simp [lagP]
  | j + 1 => by
    by_cases e : j = i
    · subst e; rw [lagP_skip, lagP_skip]; exact lagP_val g ps x v j j
    · rw [lagP_step e, lagP_step e, lagP_val g ps x v i j, Int.mul_assoc]
/-- How much the value with number i counts at the place x. -/
def bsc (g : Int) (ps : List Int) (x : Int) (i : Nat) : Int := lagP g ps x 1 i ps.length
theorem lagTo_lin (g : Int) (ps vs : List Int) (x : Int) : ∀ i, Cg (ord g) (lagTo g ps vs x i) (sumI (fun k => nth vs k * bsc g ps x k) i)
  | 0 => Cg.refl _ _
  | i + 1 => by
    rw [lagTo_succ, sumI_succ, lagP_val]
    exact (Cg.rem _ _).trans ((lagTo_lin g ps vs x i).add (Cg.refl _ _))
theorem lag_lin (g : Int) (ps vs : List Int) (x : Int) : Cg (ord g) (lag g ps vs x) (sumI (fun k => nth vs k * bsc g ps x k) ps.length) := lagTo_lin g ps vs x _
theorem cg_small {q a b : Int} (h : Cg q a b) (a0 : 0 ≤ a) (a1 : a < q) (b0 : 0 ≤ b) (b1 : b < q) : a = b := by
  have := cg_mod.2 h
  rwa [Int.emod_eq_of_lt a0 a1, Int.emod_eq_of_lt b0 b1] at this

/-- The places T tell what S tells, at x. -/
def chB (g : Int) (S T : List Int) (x : Int) : Bool := (List.range S.length).all fun j => decide (sumI (fun k => bsc g S (nth T k) j * bsc g T x k) T.length % ord g = bsc g S x j % ord g)
theorem chB_at {g : Int} {S T : List Int} {x : Int} (h : chB g S T x = true) {j : Nat} (hj : j < S.length) : Cg (ord g) (sumI (fun k => bsc g S (nth T k) j * bsc g T x k) T.length) (bsc g S x j) := by
  have := List.all_eq_true.1 h j (List.mem_range.2 hj)
  exact cg_mod.1 (of_decide_eq_true this)
theorem lag_change {g : Int} {S T vs us : List Int} {x : Int} (hu : ∀ k, k < T.length → Cg (ord g) (nth us k) (lag g S vs (nth T k))) (hc : chB g S T x = true) : Cg (ord g) (lag g T us x) (lag g S vs x) := by
  refine (lag_lin g T us x).trans (Cg.trans ?_ (lag_lin g S vs x).symm)
  have h1 : Cg (ord g) (sumI (fun k => nth us k * bsc g T x k) T.length) (sumI (fun k => sumI (fun j => nth vs j * (bsc g S (nth T k) j * bsc g T x k)) S.length) T.length) :=
    sumI_cg fun k hk => by
      have e : sumI (fun j => nth vs j * (bsc g S (nth T k) j * bsc g T x k)) S.length = bsc g T x k * sumI (fun j => nth vs j * bsc g S (nth T k) j) S.length := by
        rw [← sumI_mul]; exact sumI_congr fun j _ => by grind
      rw [e, Int.mul_comm]
      exact ((hu k hk).trans (lag_lin g S vs _)).mul _
  refine h1.trans ?_
  rw [sumI_swap]
  refine sumI_cg fun j hj => ?_
  have e : sumI (fun k => nth vs j * (bsc g S (nth T k) j * bsc g T x k)) T.length = nth vs j * sumI (fun k => bsc g S (nth T k) j * bsc g T x k) T.length := sumI_mul _ _ _
  rw [e]
  exact (chB_at hc hj).mul _
/-- At its own places the polynomial has its values. -/
def ndB (g : Int) (S : List Int) : Bool := (List.range S.length).all fun k => (List.range S.length).all fun j => decide (bsc g S (nth S k) j % ord g = (if j = k then 1 else 0) % ord g)
theorem sumI_one {f : Nat → Int} {k : Nat} : ∀ {n : Nat}, k < n → (∀ j, j < n → j ≠ k → f j = 0) → sumI f n = f k
  | 0, h, _ => by omega
  | n + 1, h, z => by
    rw [sumI_succ]
    by_cases e : k = n
    · subst e
      rw [show sumI f k = 0 from (sumI_congr fun j hj => z j (by omega) (by omega)).trans (sumI_zero k)]; omega
    · rw [z n (by omega) (by omega), sumI_one (by omega) fun j hj => z j (by omega)]; omega
theorem lag_node {g : Int} {S vs : List Int} {k : Nat} (hk : k < S.length) (hn : ndB g S = true) : Cg (ord g) (lag g S vs (nth S k)) (nth vs k) := by
  refine (lag_lin g S vs _).trans ?_
  have hd : ∀ j, j < S.length → Cg (ord g) (bsc g S (nth S k) j) (if j = k then 1 else 0) := fun j hj => by
    have := List.all_eq_true.1 (List.all_eq_true.1 hn k (List.mem_range.2 hk)) j (List.mem_range.2 hj)
    exact cg_mod.1 (of_decide_eq_true this)
  refine (sumI_cg (h := fun j => nth vs j * (if j = k then 1 else 0)) fun j hj => (hd j hj).mul _).trans ?_
  rw [sumI_one hk fun j _ hj => by rw [if_neg hj]; omega, if_pos rfl]
  exact ⟨0, by omega⟩
end Go.Proofs.YtljekapbcphdaabDoor

/- Plain mathematics of some of many: which questions line up; finite checks of places. -/
namespace Go.Proofs.YtljekapbcphdaabDoor

def apB (g : Int) (ps : List Int) : Bool := (List.range ps.length).all fun i => (List.range ps.length).all fun j => i == j || decide ((nth ps i - nth ps j) % ord g ≠ 0)
theorem apB_apart {g : Int} {ps : List Int} (h : apB g ps = true) : Apart g ps := fun i j hi hj hne => by
  have := List.all_eq_true.1 (List.all_eq_true.1 h i (List.mem_range.2 hi)) j (List.mem_range.2 hj)
  simp only [Bool.or_eq_true, beq_iff_eq, decide_eq_true_eq] at this
  rcases this with e | e
  · exact absurd e.symm hne
  · exact e
theorem apart_ne {g : Int} {ps : List Int} (h : Apart g ps) {i j : Nat} (hi : i < ps.length) (hj : j < ps.length) (hne : j ≠ i) : nth ps i ≠ nth ps j := fun e => h i j hi hj hne (by rw [e]; simp)

/-- The places 0, and k + 1 for each number k below n that f names. -/
def plB (f : Nat → Bool) : Nat → List Int
  | 0 => [0]
  | k + 1 => if f k then plB f k ++ [((k : Int) + 1)] else plB f k
theorem plB_yes {f : Nat → Bool} {k : Nat} (h : f k = true) : plB f (k + 1) = plB f k ++ [((k : Int) + 1)] := by simp [plB, h]
theorem plB_no {f : Nat → Bool} {k : Nat} (h : f k = false) : plB f (k + 1) = plB f k := by simp [plB, h]
theorem plB_congr {f h : Nat → Bool} : ∀ {n : Nat}, (∀ k, k < n → f k = h k) → plB f n = plB h n
  | 0, _ => rfl
  | n + 1, e => by
    have ih := plB_congr (n := n) fun k hk => e k (by omega)
    unfold plB
    rw [ih, e n (by omega)]
theorem plB_nodes : ∀ {f : Nat → Bool} {m : Nat}, (∀ k, k < m → f k = true) → plB f m = nodes m
  | _, 0, _ => rfl
  | f, m + 1, e => by rw [plB_yes (e m (by omega)), plB_nodes (f := f) (m := m) fun k hk => e k (by omega)]; rfl
theorem plB_nodes_at {f : Nat → Bool} {m n : Nat} (h1 : ∀ k, k < m → f k = true) (h2 : ∀ k, m ≤ k → k < n → f k = false) (hm : m ≤ n) : plB f n = nodes m := by
  induction n with
  | zero => obtain rfl : m = 0 := by omega
            rfl
  | succ n ih =>
    by_cases e : m = n + 1
    · subst e; exact plB_nodes h1
    · rw [plB_no (h2 n (by omega) (by omega))]; exact ih (fun k a b => h2 k a (by omega)) (by omega)
theorem plB_len_pos (f : Nat → Bool) : ∀ n, 1 ≤ (plB f n).length ∧ (plB f n).length ≤ n + 1
  | 0 => by simp [plB]
  | n + 1 => by
    have ih := plB_len_pos f n
    cases h : f n
    · rw [plB_no h]; omega
    · rw [plB_yes h, List.length_append]; simp; omega
theorem plB_bd (f : Nat → Bool) : ∀ n j, j < (plB f n).length → 0 ≤ nth (plB f n) j ∧ nth (plB f n) j ≤ n
  | 0, j, h => by obtain rfl : j = 0 := by simp [plB] at h; exact h
                  simp [plB, nth]
  | n + 1, j, h => by
    cases hf : f n
    · rw [plB_no hf] at h ⊢; have := plB_bd f n j h; omega
    · rw [plB_yes hf] at h ⊢
      rw [nth_app]
      by_cases e : j < (plB f n).length
      · rw [if_pos e]; have := plB_bd f n j e; omega
      · obtain rfl : j = (plB f n).length := by simp at h; omega
        rw [if_neg e, if_pos rfl]; omega
/-- Numbers below 16 name all choices of four. -/
theorem bits_of (f : Nat → Bool) : ∃ c : Fin 16, ∀ k, k < 4 → f k = Nat.testBit c.val k := by
  have h : ∀ a b d e : Bool, ∃ c : Fin 16, Nat.testBit c.val 0 = a ∧ Nat.testBit c.val 1 = b ∧ Nat.testBit c.val 2 = d ∧ Nat.testBit c.val 3 = e := by decide
  obtain ⟨c, h0, h1, h2, h3⟩ := h (f 0) (f 1) (f 2) (f 3)
  refine ⟨c, fun k hk => ?_⟩
  rcases (show k = 0 ∨ k = 1 ∨ k = 2 ∨ k = 3 by omega) with rfl | rfl | rfl | rfl
  · exact h0.symm
  · exact h1.symm
  · exact h2.symm
  · exact h3.symm
theorem apAll : ∀ g : Fin 4, ∀ n : Fin 5, (n.val : Int) < ord g.val → ∀ c : Fin 16, apB g.val (plB (Nat.testBit c.val) n.val) = true := by decide +kernel
theorem plB_apart {g : Int} (h0 : 0 ≤ g) (h4 : g < 4) {n : Nat} (hn : n ≤ 4) (hl : (n : Int) < ord g) (f : Nat → Bool) : Apart g (plB f n) := by
  obtain ⟨c, hc⟩ := bits_of f
  have e : ((⟨g.toNat, by omega⟩ : Fin 4).val : Int) = g := by show ((g.toNat : Nat) : Int) = g; omega
  have := apAll ⟨g.toNat, by omega⟩ ⟨n, by omega⟩ (by rw [e]; exact hl) c
  rw [e] at this
  rw [plB_congr (h := Nat.testBit c.val) fun k hk => hc k (by omega)]
  exact apB_apart this
theorem nodes_apart {g : Int} (h0 : 0 ≤ g) (h4 : g < 4) {m : Nat} (hn : m ≤ 4) (hl : (m : Int) < ord g) : Apart g (nodes m) := by
  rw [← plB_nodes (f := fun _ => true) fun _ _ => rfl]; exact plB_apart h0 h4 hn hl _
theorem ndAll : ∀ g : Fin 4, ∀ m : Fin 5, (m.val : Int) < ord g.val → ndB g.val (nodes m.val) = true := by decide +kernel
theorem nodes_nd {g : Int} (h0 : 0 ≤ g) (h4 : g < 4) {m : Nat} (hn : m ≤ 4) (hl : (m : Int) < ord g) : ndB g (nodes m) = true := by
  have e : ((⟨g.toNat, by omega⟩ : Fin 4).val : Int) = g := by show ((g.toNat : Nat) : Int) = g; omega
  have := ndAll ⟨g.toNat, by omega⟩ ⟨m, by omega⟩ (by rw [e]; exact hl)
  rwa [e] at this

/-- The whole question and the first m others tell all of n. -/
def upB (g : Int) (m n : Nat) (ask : Int) (asks : List Int) : Bool := (List.range n).all fun k => decide (lag g (nodes m) (frees ask asks m) ((k : Int) + 1) = nth asks k)
theorem upB_true {g : Int} {m n : Nat} {ask : Int} {asks : List Int} : upB g m n ask asks = true ↔ ∀ k, k < n → lag g (nodes m) (frees ask asks m) ((k : Int) + 1) = nth asks k := by
  unfold upB
  rw [List.all_eq_true]
  exact ⟨fun h k hk => of_decide_eq_true (h k (List.mem_range.2 hk)), fun h k hk => decide_eq_true (h k (List.mem_range.1 hk))⟩
theorem upB_false {g : Int} {m n : Nat} {ask : Int} {asks : List Int} {k : Nat} (hk : k < n) (h : lag g (nodes m) (frees ask asks m) ((k : Int) + 1) ≠ nth asks k) : upB g m n ask asks = false := by
  cases hu : upB g m n ask asks
  · rfl
  · exact absurd (upB_true.1 hu k hk) h
/-- As many others as need not be known. -/
def leadN (n : Nat) (need : Int) : Nat := ((n : Int) - need).toNat
def linB (g need ask : Int) (asks : List Int) : Bool := mnyB g asks.length need && (exB g ask && (allEx g asks && upB g (leadN asks.length need) asks.length ask asks))
structure Lin (g need ask : Int) (asks : List Int) : Prop where
  m : Mny g asks.length need
  a : exB g ask = true
  ex : allEx g asks = true
  up : upB g (leadN asks.length need) asks.length ask asks = true
theorem linB_true {g need ask : Int} {asks : List Int} : linB g need ask asks = true ↔ Lin g need ask asks := by
  unfold linB
  simp only [Bool.and_eq_true, mnyB_true]
  exact ⟨fun ⟨a, b, c, d⟩ => ⟨a, b, c, d⟩, fun h => ⟨h.m, h.a, h.ex, h.up⟩⟩
theorem linB_false {g need ask : Int} {asks : List Int} (h : ¬ Lin g need ask asks) : linB g need ask asks = false := by
  cases hb : linB g need ask asks
  · rfl
  · exact absurd (linB_true.1 hb) h
theorem linB_no1 {g need : Int} {asks : List Int} (ask : Int) (h : mnyB g asks.length need = false) : linB g need ask asks = false := by unfold linB; rw [h]; rfl
theorem linB_no2 {g need ask : Int} {asks : List Int} (h : exB g ask = false) : linB g need ask asks = false := by unfold linB; rw [h]; simp
theorem linB_no3 {g need ask : Int} {asks : List Int} (h : allEx g asks = false) : linB g need ask asks = false := by unfold linB; rw [h]; simp
theorem linB_yes {g need ask : Int} {asks : List Int} (h1 : mnyB g asks.length need = true) (h2 : exB g ask = true) (h3 : allEx g asks = true) : linB g need ask asks = upB g (leadN asks.length need) asks.length ask asks := by unfold linB; rw [h1, h2, h3]; rfl
theorem Mny.ldN {g need : Int} {n : Nat} (h : Mny g n need) : leadN n need < n ∧ leadN n need ≤ 3 ∧ (leadN n need : Int) = n - need ∧ ((leadN n need : Nat) : Int) < ord g := by
  have h1 := h.d1; have h2 := h.dn; have h3 := h.n4; have h4 := h.lt
  unfold leadN
  omega
/-- At its own places the polynomial has its values. -/
theorem lag_own {g ask : Int} {asks : List Int} (h0 : 0 ≤ g) (h4 : g < 4) {m k : Nat} (hm : m ≤ 4) (hl : (m : Int) < ord g) (hk : k < m) (hx : exB g (nth asks k) = true) : lag g (nodes m) (frees ask asks m) ((k : Int) + 1) = nth asks k := by
  have h := lag_node (vs := frees ask asks m) (k := k + 1) (by rw [nodes_len]; omega) (nodes_nd h0 h4 hm hl)
  rw [nodes_nth m (k + 1) (by omega), frees_nth ask asks m (k + 1) (by omega), if_neg (by omega)] at h
  obtain ⟨_, e0, e1⟩ := exB_true.1 hx
  obtain ⟨_, l0, l1⟩ := exB_true.1 (lag_ex h0 h4 (nodes m) (frees ask asks m) ((k : Int) + 1))
  have e : ((k + 1 : Nat) : Int) = (k : Int) + 1 := by omega
  rw [e] at h
  exact cg_small h l0 l1 e0 e1
end Go.Proofs.YtljekapbcphdaabDoor
