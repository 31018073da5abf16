/- Plain mathematics of some of many: values on a polynomial, told by other places of it. -/
import Derived.Test.YtacalanlepjljaaDoorPureV
namespace Go.Proofs.YtacalanlepjljaaDoor

/-- Sums. -/
def sumI (f : Nat → Int) : Nat → Int
  | 0 => 0
  | n + 1 => sumI f n + f n
theorem sumI_succ (f : Nat → Int) (n : Nat) : sumI f (n + 1) = sumI f n + f n := rfl
theorem sumI_congr {f h : Nat → Int} : ∀ {n : Nat}, (∀ k, k < n → f k = h k) → sumI f n = sumI h n
  | 0, _ => rfl
  | n + 1, e => by rw [sumI_succ, sumI_succ, sumI_congr fun k hk => e k (by omega), e n (by omega)]
theorem sumI_cg {q : Int} {f h : Nat → Int} : ∀ {n : Nat}, (∀ k, k < n → Cg q (f k) (h k)) → Cg q (sumI f n) (sumI h n)
  | 0, _ => Cg.refl _ _
  | n + 1, e => (sumI_cg fun k hk => e k (by omega)).add (e n (by omega))
theorem sumI_add (f h : Nat → Int) : ∀ n, sumI (fun k => f k + h k) n = sumI f n + sumI h n
  | 0 => rfl
  | n + 1 => by rw [sumI_succ, sumI_succ, sumI_succ, sumI_add f h n]; omega
theorem sumI_mul (c : Int) (f : Nat → Int) : ∀ n, sumI (fun k => c * f k) n = c * sumI f n
  | 0 => by simp [sumI]
  | n + 1 => by rw [sumI_succ, sumI_succ, sumI_mul c f n, Int.mul_add]
theorem sumI_zero : ∀ n, sumI (fun _ => 0) n = 0
  | 0 => rfl
  | n + 1 => by rw [sumI_succ, sumI_zero n]; rfl
theorem sumI_swap (f : Nat → Nat → Int) (m : Nat) : ∀ n, sumI (fun k => sumI (fun j => f k j) m) n = sumI (fun j => sumI (fun k => f k j) n) m
  | 0 => by
    show 0 = sumI (fun _ => (0 : Int)) m
    rw [sumI_zero]
  | n + 1 => by
    rw [sumI_succ, sumI_swap f m n, ← sumI_add]
    exact sumI_congr fun j _ => rfl

theorem lagP_val (g : Int) (ps : List Int) (x v : Int) (i : Nat) : ∀ j, lagP g ps x v i j = v * lagP g ps x 1 i j
  | 0 => by simp [lagP]
  | j + 1 => by
    by_cases e : j = i
    · subst e; rw [lagP_skip, lagP_skip]; exact lagP_val g ps x v j j
    · rw [lagP_step e, lagP_step e, lagP_val g ps x v i j, Int.mul_assoc]
/-- How much the value with number i counts at the place x. -/
def bsc (g : Int) (ps : List Int) (x : Int) (i : Nat) : Int := lagP g ps x 1 i ps.length
theorem lagTo_lin (g : Int) (ps vs : List Int) (x : Int) : ∀ i, Cg (ord g) (lagTo g ps vs x i) (sumI (fun k => nth vs k * bsc g ps x k) i)
  | 0 => Cg.refl _ _
  | i + 1 => by
    rw [lagTo_succ, sumI_succ, lagP_val]
    exact (Cg.rem _ _).trans ((lagTo_lin g ps vs x i).add (Cg.refl _ _))
theorem lag_lin (g : Int) (ps vs : List Int) (x : Int) : Cg (ord g) (lag g ps vs x) (sumI (fun k => nth vs k * bsc g ps x k) ps.length) := lagTo_lin g ps vs x _
theorem cg_small {q a b : Int} (h : Cg q a b) (a0 : 0 ≤ a) (a1 : a < q) (b0 : 0 ≤ b) (b1 : b < q) : a = b := by
  have := cg_mod.2 h
  rwa [Int.emod_eq_of_lt a0 a1, Int.emod_eq_of_lt b0 b1] at this

/-- The places T tell what S tells, at x. -/
def chB (g : Int) (S T : List Int) (x : Int) : Bool := (List.range S.length).all fun j => decide (sumI (fun k => bsc g S (nth T k) j * bsc g T x k) T.length % ord g = bsc g S x j % ord g)
theorem chB_at {g : Int} {S T : List Int} {x : Int} (h : chB g S T x = true) {j : Nat} (hj : j < S.length) : Cg (ord g) (sumI (fun k => bsc g S (nth T k) j * bsc g T x k) T.length) (bsc g S x j) := by
  have := List.all_eq_true.1 h j (List.mem_range.2 hj)
  exact cg_mod.1 (of_decide_eq_true this)
theorem lag_change {g : Int} {S T vs us : List Int} {x : Int} (hu : ∀ k, k < T.length → Cg (ord g) (nth us k) (lag g S vs (nth T k))) (hc : chB g S T x = true) : Cg (ord g) (lag g T us x) (lag g S vs x) := by
  refine (lag_lin g T us x).trans (Cg.trans ?_ (lag_lin g S vs x).symm)
  have h1 : Cg (ord g) (sumI (fun k => nth us k * bsc g T x k) T.length) (sumI (fun k => sumI (fun j => nth vs j * (bsc g S (nth T k) j * bsc g T x k)) S.length) T.length) :=
    sumI_cg fun k hk => by
      have e : sumI (fun j => nth vs j * (bsc g S (nth T k) j * bsc g T x k)) S.length = bsc g T x k * sumI (fun j => nth vs j * bsc g S (nth T k) j) S.length := by
        rw [← sumI_mul]; exact sumI_congr fun j _ => by grind
      rw [e, Int.mul_comm]
      exact ((hu k hk).trans (lag_lin g S vs _)).mul _
  refine h1.trans ?_
  rw [sumI_swap]
  refine sumI_cg fun j hj => ?_
  have e : sumI (fun k => nth vs j * (bsc g S (nth T k) j * bsc g T x k)) T.length = nth vs j * sumI (fun k => bsc g S (nth T k) j * bsc g T x k) T.length := sumI_mul _ _ _
  rw [e]
  exact (chB_at hc hj).mul _
/-- At its own places the polynomial has its values. -/
def ndB (g : Int) (S : List Int) : Bool := (List.range S.length).all fun k => (List.range S.length).all fun j => decide (bsc g S (nth S k) j % ord g = (if j = k then 1 else 0) % ord g)
theorem sumI_one {f : Nat → Int} {k : Nat} : ∀ {n : Nat}, k < n → (∀ j, j < n → j ≠ k → f j = 0) → sumI f n = f k
  | 0, h, _ => by omega
  | n + 1, h, z => by
    rw [sumI_succ]
    by_cases e : k = n
    · subst e
      rw [show sumI f k = 0 from (sumI_congr fun j hj => z j (by omega) (by omega)).trans (sumI_zero k)]; omega
    · rw [z n (by omega) (by omega), sumI_one (by omega) fun j hj => z j (by omega)]; omega
theorem lag_node {g : Int} {S vs : List Int} {k : Nat} (hk : k < S.length) (hn : ndB g S = true) : Cg (ord g) (lag g S vs (nth S k)) (nth vs k) := by
  refine (lag_lin g S vs _).trans ?_
  have hd : ∀ j, j < S.length → Cg (ord g) (bsc g S (nth S k) j) (if j = k then 1 else 0) := fun j hj => by
    have := List.all_eq_true.1 (List.all_eq_true.1 hn k (List.mem_range.2 hk)) j (List.mem_range.2 hj)
    exact cg_mod.1 (of_decide_eq_true this)
  refine (sumI_cg (h := fun j => nth vs j * (if j = k then 1 else 0)) fun j hj => (hd j hj).mul _).trans ?_
  rw [sumI_one hk fun j _ hj => by rw [if_neg hj]; omega, if_pos rfl]
  exact ⟨0, by omega⟩
end Go.Proofs.YtacalanlepjljaaDoor
