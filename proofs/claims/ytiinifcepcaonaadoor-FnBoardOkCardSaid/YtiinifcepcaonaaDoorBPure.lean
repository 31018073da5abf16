/- PureB, PureC, PureT, PureR, PureS, PureT2, in one text. -/
import Derived.Test.YtiinifcepcaonaaDoorBWalk
/- Plain mathematics of the promises of chapter 1. -/
namespace Go.Proofs.YtiinifcepcaonaaDoor

/-! ### primes -/
theorem prm_prime_all : ∀ g ∈ [(0 : Int), 1, 2, 3], ∀ d ∈ (List.range 47).map (fun k : Nat => (k : Int)), 2 ≤ d → d < prm g → prm g % d ≠ 0 := by decide +kernel
theorem prm_prime {g : Int} (h0 : 0 ≤ g) (h4 : g < 4) {k : Nat} (h2 : 2 ≤ k) (hk : (k : Int) < prm g) : prm g % (k : Int) ≠ 0 :=
  prm_prime_all g (g_mem h0 h4) k (List.mem_map.2 ⟨k, List.mem_range.2 (by have := prm_bd h0 h4; omega), rfl⟩) (by omega) hk
theorem ord_prime_all : ∀ g ∈ [(0 : Int), 1, 2, 3], ∀ d ∈ (List.range 47).map (fun k : Nat => (k : Int)), 2 ≤ d → d < ord g → ord g % d ≠ 0 := by decide +kernel
theorem ord_prime {g : Int} (h0 : 0 ≤ g) (h4 : g < 4) {k : Nat} (h2 : 2 ≤ k) (hk : (k : Int) < ord g) : ord g % (k : Int) ≠ 0 :=
  ord_prime_all g (g_mem h0 h4) k (List.mem_map.2 ⟨k, List.mem_range.2 (by have := ord_bd h0 h4; omega), rfl⟩) (by omega) hk
theorem prm_ord {g : Int} (h0 : 0 ≤ g) (h4 : g < 4) : (prm g - 1) % ord g = 0 := by rcases g_cases h0 h4 with rfl | rfl | rfl | rfl <;> decide
theorem bas_el {g : Int} (h0 : 0 ≤ g) (h4 : g < 4) : elB g (bas g) = true := by rcases g_cases h0 h4 with rfl | rfl | rfl | rfl <;> decide

/-! ### exponents -/
theorem exB_zero (g : Int) : exB g 0 = decide (0 < ord g) := by
  by_cases hg : 0 ≤ g ∧ g < 4
  · have := ord_bd hg.1 hg.2
    rw [exB_true.2 ⟨hg, by omega, by omega⟩]; symm; simp; omega
  · rw [exB_none hg, ord_none hg]; rfl
theorem exB_ord (g : Int) : exB g (ord g) = false := exB_false.2 fun h => by omega

/-! ### products -/
theorem tim_el_all : ∀ g ∈ [(0 : Int), 1, 2, 3], ∀ a ∈ els g, ∀ b ∈ els g, elB g (a * b % prm g) = true := by decide +kernel
theorem tim_el {g a b : Int} (ha : elB g a = true) (hb : elB g b = true) : elB g (tim g a b) = true := by
  obtain ⟨h0, h4⟩ := elB_group ha
  rw [tim_yes ha hb]
  exact tim_el_all g (g_mem h0 h4) a (elB_mem.1 ha) b (elB_mem.1 hb)
theorem tim_comm (g a b : Int) : tim g a b = tim g b a := by unfold tim; rw [Bool.and_comm, Int.mul_comm]
theorem tim_assoc {g a b c : Int} (ha : elB g a = true) (hb : elB g b = true) (hc : elB g c = true) : tim g (tim g a b) c = tim g a (tim g b c) := by
  rw [tim_yes (tim_el ha hb) hc, tim_yes ha (tim_el hb hc), tim_yes ha hb, tim_yes hb hc]
  rw [Int.mul_emod (a * b % prm g) c, Int.emod_emod_of_dvd _ (Int.dvd_refl _), ← Int.mul_emod, Int.mul_emod a (b * c % prm g), Int.emod_emod_of_dvd _ (Int.dvd_refl _), ← Int.mul_emod, Int.mul_assoc]
theorem tim_pos {g a b : Int} (h : 0 ≤ tim g a b) : elB g a = true ∧ elB g b = true := by
  cases ha : elB g a
  · rw [tim_no1 ha] at h; omega
  · cases hb : elB g b
    · rw [tim_no2 hb] at h; omega
    · exact ⟨rfl, rfl⟩
theorem tim_neg {g a b : Int} (h : tim g a b < 0) : tim g a b = -1 := by
  cases ha : elB g a
  · exact tim_no1 ha
  · cases hb : elB g b
    · exact tim_no2 hb
    · have := elB_bound (tim_el ha hb); omega

/-! ### powers -/
theorem pw_mul_mod (p a : Int) (hp : 1 < p) (i : Nat) : pw p a i % p = pw p a i := by
  obtain ⟨h0, h1⟩ := pw_bound p a hp i
  exact Int.emod_eq_of_lt h0 h1
theorem pw_add (p a : Int) (hp : 1 < p) (i : Nat) : ∀ j, pw p a (i + j) = pw p a i * pw p a j % p
  | 0 => by simp only [Nat.add_zero, pw, Int.mul_one]; exact (pw_mul_mod p a hp i).symm
  | j + 1 => by
    rw [show i + (j + 1) = (i + j) + 1 from rfl, pw_succ, pw_succ, pw_add p a hp i j]
    rw [Int.mul_emod (pw p a i * pw p a j % p) a, Int.emod_emod_of_dvd _ (Int.dvd_refl _), ← Int.mul_emod, Int.mul_emod (pw p a i) (pw p a j * a % p), Int.emod_emod_of_dvd _ (Int.dvd_refl _), ← Int.mul_emod, Int.mul_assoc]
theorem pw_pw (p a : Int) (hp : 1 < p) (i : Nat) : ∀ j, pw p (pw p a i) j = pw p a (i * j)
  | 0 => rfl
  | j + 1 => by rw [pw_succ, pw_pw p a hp i j, Nat.mul_succ, pw_add p a hp]
theorem pw_times (p a : Int) (hp : 1 < p) (q : Nat) (h : pw p a q = 1) : ∀ t, pw p a (q * t) = 1
  | 0 => rfl
  | t + 1 => by rw [Nat.mul_succ, pw_add p a hp, pw_times p a hp q h t, h, Int.one_mul, Int.emod_eq_of_lt (by omega) hp]
theorem pw_mod (p a : Int) (hp : 1 < p) (q : Nat) (h : pw p a q = 1) (i : Nat) : pw p a (i % q) = pw p a i := by
  have e : i = q * (i / q) + i % q := (Nat.div_add_mod i q).symm
  conv => rhs; rw [e]
  rw [pw_add p a hp, pw_times p a hp q h, Int.one_mul, pw_mul_mod p a hp]
theorem el_order {g a : Int} (ha : elB g a = true) : pw (prm g) a (ord g).toNat = 1 := by
  obtain ⟨h0, h4⟩ := elB_group ha
  obtain ⟨h1, h2, _⟩ := elB_bound ha
  have := elB_pow h0 h4 h1 h2
  rw [ha] at this
  simpa using this.symm
/-- The power with any whole number. -/
def gp (g a n : Int) : Int := pw (prm g) a (n % ord g).toNat
theorem toNat_mod {n q : Int} (hq : 0 < q) : ((n % q).toNat : Int) = n % q := Int.toNat_of_nonneg (Int.emod_nonneg n (by omega))
theorem gp_nat {g a : Int} (ha : elB g a = true) (k : Nat) : gp g a k = pw (prm g) a k := by
  obtain ⟨h0, h4⟩ := elB_group ha
  have o := ord_bd h0 h4
  have p := prm_bd h0 h4
  have h := pw_mod (prm g) a (by omega) (ord g).toNat (el_order ha) k
  unfold gp
  rw [← h]
  obtain ⟨q, hq⟩ : ∃ q : Nat, ord g = q := ⟨(ord g).toNat, by omega⟩
  rw [hq, ← Int.natCast_emod, Int.toNat_natCast, Int.toNat_natCast]
theorem gp_congr {g a m n : Int} (h : m % ord g = n % ord g) : gp g a m = gp g a n := by unfold gp; rw [h]
theorem gp_add {g a : Int} (ha : elB g a = true) (m n : Int) : gp g a (m + n) = gp g a m * gp g a n % prm g := by
  obtain ⟨h0, h4⟩ := elB_group ha
  have o := ord_bd h0 h4
  have p := prm_bd h0 h4
  have e : gp g a (m + n) = gp g a (((m % ord g).toNat + (n % ord g).toNat : Nat) : Int) := gp_congr (by rw [Int.natCast_add, toNat_mod (by omega), toNat_mod (by omega), ← Int.add_emod])
  rw [e, gp_nat ha, pw_add _ _ (by omega)]; rfl
theorem gp_el {g a : Int} (ha : elB g a = true) (n : Int) : elB g (gp g a n) = true := by
  obtain ⟨h0, h4⟩ := elB_group ha
  have p := prm_bd h0 h4
  have h1 : ∀ k, elB g (pw (prm g) a k) = true := fun k => by
    induction k with
    | zero => show elB g 1 = true; rcases g_cases h0 h4 with rfl | rfl | rfl | rfl <;> decide
    | succ k ih => rw [pw_succ]; exact tim_el_all g (g_mem h0 h4) _ (elB_mem.1 ih) a (elB_mem.1 ha)
  exact h1 _
theorem gp_gp {g a : Int} (ha : elB g a = true) (m n : Int) : gp g (gp g a m) n = gp g a (m * n) := by
  obtain ⟨h0, h4⟩ := elB_group ha
  have o := ord_bd h0 h4
  have p := prm_bd h0 h4
  have e : gp g a (m * n) = gp g a (((m % ord g).toNat * (n % ord g).toNat : Nat) : Int) := gp_congr (by rw [Int.natCast_mul, toNat_mod (by omega), toNat_mod (by omega), ← Int.mul_emod])
  rw [e, gp_nat ha, ← pw_pw _ _ (by omega)]; rfl
theorem gp_one {g a : Int} (ha : elB g a = true) : gp g a 1 = a := by
  have := gp_nat ha 1
  obtain ⟨h1, h2, _⟩ := elB_bound ha
  rw [show ((1 : Nat) : Int) = 1 from rfl] at this
  rw [this]; simp only [pw, Int.one_mul]; exact Int.emod_eq_of_lt (by omega) h2
theorem gpow_gp {g a n : Int} (ha : elB g a = true) (h1 : -9999 ≤ n) (h2 : n ≤ 9999) : gpow g a n = gp g a n := gpow_yes ha h1 h2
theorem gpow_pos {g a n : Int} (h : 0 ≤ gpow g a n) : elB g a = true ∧ -9999 ≤ n ∧ n ≤ 9999 := by
  cases ha : elB g a
  · rw [gpow_no1 ha] at h; omega
  · by_cases hn : -9999 ≤ n ∧ n ≤ 9999
    · exact ⟨rfl, hn⟩
    · rw [gpow_no2 hn] at h; omega
theorem gpow_neg {g a n : Int} (h : gpow g a n < 0) : gpow g a n = -1 := by
  cases ha : elB g a
  · exact gpow_no1 ha
  · by_cases hn : -9999 ≤ n ∧ n ≤ 9999
    · have := gp_el ha n
      rw [← gpow_gp ha hn.1 hn.2] at this
      have := elB_bound this; omega
    · exact gpow_no2 hn
theorem gpow_el {g a n : Int} (h : 0 ≤ gpow g a n) : elB g (gpow g a n) = true := by
  obtain ⟨ha, h1, h2⟩ := gpow_pos h
  rw [gpow_gp ha h1 h2]; exact gp_el ha n
theorem gpow_sum {g a : Int} (ha : elB g a = true) {m n : Int} (h1 : -5000 ≤ m) (h2 : m ≤ 4999) (h3 : -4999 ≤ n) (h4 : n ≤ 5000) : gpow g a (m + n) = tim g (gpow g a m) (gpow g a n) := by
  rw [gpow_gp ha (by omega) (by omega), gpow_gp ha (by omega) (by omega), gpow_gp ha (by omega) (by omega), tim_yes (gp_el ha _) (gp_el ha _), gp_add ha]
theorem mul_bd {m n : Int} (h1 : -99 ≤ m) (h2 : m ≤ 99) (h3 : -100 ≤ n) (h4 : n ≤ 100) : -9999 ≤ m * n ∧ m * n ≤ 9999 := by
  constructor
  · by_cases c1 : 0 ≤ m <;> by_cases c2 : 0 ≤ n
    · have := Int.mul_nonneg c1 c2; omega
    · have k := Int.mul_le_mul (show m ≤ 99 by omega) (show -n ≤ 100 by omega) (by omega) (by omega)
      rw [Int.mul_neg] at k; omega
    · have k := Int.mul_le_mul (show -m ≤ 99 by omega) (show n ≤ 100 by omega) (by omega) (by omega)
      rw [Int.neg_mul] at k; omega
    · have k := Int.mul_nonneg (show 0 ≤ -m by omega) (show 0 ≤ -n by omega)
      rw [Int.neg_mul_neg] at k; omega
  · by_cases c1 : 0 ≤ m <;> by_cases c2 : 0 ≤ n
    · have := Int.mul_le_mul (show m ≤ 99 by omega) (show n ≤ 101 by omega) (by omega) (by omega); omega
    · have k := Int.mul_nonneg c1 (show 0 ≤ -n by omega)
      rw [Int.mul_neg] at k; omega
    · have k := Int.mul_nonneg (show 0 ≤ -m by omega) c2
      rw [Int.neg_mul] at k; omega
    · have k := Int.mul_le_mul (show -m ≤ 99 by omega) (show -n ≤ 101 by omega) (by omega) (by omega)
      rw [Int.neg_mul_neg] at k; omega
theorem gpow_mul {g a : Int} (ha : elB g a = true) {m n : Int} (h1 : -99 ≤ m) (h2 : m ≤ 99) (h3 : -100 ≤ n) (h4 : n ≤ 100) : gpow g (gpow g a m) n = gpow g a (m * n) := by
  have b1 := mul_bd h1 h2 h3 h4
  rw [gpow_gp ha (by omega) (by omega), gpow_gp (gp_el ha _) (by omega) (by omega), gpow_gp ha b1.1 b1.2, gp_gp ha]
theorem gpow_more {g a : Int} (ha : elB g a = true) {n : Int} (h1 : -9000 ≤ n) (h2 : n ≤ 9000) : gpow g a (n + ord g) = gpow g a n := by
  obtain ⟨h0, h4⟩ := elB_group ha
  have o := ord_bd h0 h4
  rw [gpow_gp ha (by omega) (by omega), gpow_gp ha (by omega) (by omega)]
  exact gp_congr (Int.add_emod_right _ _)

/-! ### logarithms, roots -/
theorem log_pow_all : ∀ g ∈ [(0 : Int), 1, 2, 3], ∀ b ∈ els g, b ≠ 1 → ∀ k ∈ List.range 23, (k : Int) < ord g → glog g b (pw (prm g) b k) = k := by decide +kernel
theorem glog_pow {g b : Int} (hb : elB g b = true) (h1 : b ≠ 1) {k : Nat} (hk : (k : Int) < ord g) : glog g b (pw (prm g) b k) = k := by
  obtain ⟨h0, h4⟩ := elB_group hb
  have o := ord_bd h0 h4
  exact log_pow_all g (g_mem h0 h4) b (elB_mem.1 hb) h1 k (List.mem_range.2 (by omega)) hk
theorem glog_gp {g b : Int} (hb : elB g b = true) (h1 : b ≠ 1) (n : Int) : glog g b (gp g b n) = n % ord g := by
  obtain ⟨h0, h4⟩ := elB_group hb
  have o := ord_bd h0 h4
  have := Int.emod_lt_of_pos n (show 0 < ord g by omega)
  unfold gp
  rw [glog_pow hb h1 (by rw [toNat_mod (by omega)]; exact this), toNat_mod (by omega)]
theorem gp_glog {g b a : Int} (hb : elB g b = true) (ha : elB g a = true) (h1 : b ≠ 1) : gp g b (glog g b a) = a := by
  obtain ⟨h2, h3, h4⟩ := glog_spec hb ha h1
  unfold gp
  rw [Int.emod_eq_of_lt h2 h3]; exact h4
theorem glog_tim {g b a c : Int} (hb : elB g b = true) (h1 : b ≠ 1) (ha : elB g a = true) (hc : elB g c = true) : glog g b (tim g a c) = (glog g b a + glog g b c) % ord g := by
  rw [tim_yes ha hc]
  conv => lhs; rw [← gp_glog hb ha h1, ← gp_glog hb hc h1]
  rw [← gp_add hb, glog_gp hb h1]
theorem glog_pos {g b a : Int} (h : 0 ≤ glog g b a) : elB g b = true ∧ elB g a = true ∧ b ≠ 1 := by
  cases hb : elB g b
  · rw [glog_no1 hb] at h; omega
  · cases ha : elB g a
    · rw [glog_no2 ha] at h; omega
    · refine ⟨rfl, rfl, fun e => ?_⟩
      subst e; rw [glog_no3] at h; omega
theorem glog_neg {g b a : Int} (h : glog g b a < 0) : glog g b a = -1 := by
  cases hb : elB g b
  · exact glog_no1 hb
  · cases ha : elB g a
    · exact glog_no2 ha
    · by_cases h1 : b = 1
      · subst h1; exact glog_no3
      · have := (glog_spec hb ha h1).1; omega
theorem gpow_glog {g b a : Int} (h : 0 ≤ glog g b a) : gpow g b (glog g b a) = a := by
  obtain ⟨hb, ha, h1⟩ := glog_pos h
  obtain ⟨h0, h4⟩ := elB_group hb
  have o := ord_bd h0 h4
  have s := glog_spec hb ha h1
  rw [gpow_gp hb (by omega) (by omega), gp_glog hb ha h1]
theorem exB_glog {g b a : Int} (h : 0 ≤ glog g b a) : exB g (glog g b a) = true := by
  obtain ⟨hb, ha, h1⟩ := glog_pos h
  exact exB_true.2 ⟨elB_group hb, h, (glog_spec hb ha h1).2.1⟩
theorem back_prod_all : ∀ g ∈ [(0 : Int), 1, 2, 3], ∀ n ∈ (List.range 23).map (fun k : Nat => (k : Int)), n < ord g → (gback g n = -1 ∧ n = 0) ∨ (0 ≤ gback g n ∧ gback g n < ord g ∧ n * gback g n % ord g = 1) := by decide +kernel
theorem back_prod {g n : Int} (hx : exB g n = true) : (gback g n = -1 ∧ n = 0) ∨ (0 ≤ gback g n ∧ gback g n < ord g ∧ n * gback g n % ord g = 1) := by
  obtain ⟨⟨h0, h4⟩, n0, n1⟩ := exB_true.1 hx
  have o := ord_bd h0 h4
  exact back_prod_all g (g_mem h0 h4) n (List.mem_map.2 ⟨n.toNat, List.mem_range.2 (by omega), by omega⟩) n1
theorem gback_pos {g n : Int} (h : 0 ≤ gback g n) : exB g n = true ∧ gback g n < ord g ∧ n * gback g n % ord g = 1 := by
  cases hx : exB g n
  · rw [gback_no hx] at h; omega
  · rcases back_prod hx with ⟨e, _⟩ | ⟨_, h2, h3⟩
    · omega
    · exact ⟨rfl, h2, h3⟩
theorem gback_neg {g n : Int} (h : gback g n < 0) : gback g n = -1 := by
  cases hx : exB g n
  · exact gback_no hx
  · rcases back_prod hx with ⟨e, _⟩ | ⟨h1, h2, h3⟩
    · exact e
    · omega
theorem root_back {g n a : Int} (h : 0 ≤ gback g n) (ha : elB g a = true) : gpow g (gpow g a n) (gback g n) = a := by
  obtain ⟨hx, h2, h3⟩ := gback_pos h
  obtain ⟨⟨h0, h4⟩, n0, n1⟩ := exB_true.1 hx
  have o := ord_bd h0 h4
  rw [gpow_gp ha (by omega) (by omega), gpow_gp (gp_el ha _) (by omega) (by omega), gp_gp ha]
  rw [gp_congr (n := 1) (by rw [h3, Int.emod_eq_of_lt (by omega) (by omega)]), gp_one ha]

end Go.Proofs.YtiinifcepcaonaaDoor

/- Plain mathematics of the promise of ElementsOf: the powers of an element but 1. -/
namespace Go.Proofs.YtiinifcepcaonaaDoor

/-- The first j powers of x. -/
def powsTo (g x : Int) : Nat → List Int
  | 0 => []
  | j + 1 => powsTo g x j ++ [gpow g x j]
theorem powsTo_len (g x : Int) : ∀ j, (powsTo g x j).length = j
  | 0 => rfl
  | j + 1 => by unfold powsTo; rw [List.length_append, powsTo_len g x j]; rfl
theorem els_first_all : ∀ g ∈ [(0 : Int), 1, 2, 3], nth (els g) 0 = 1 := by decide
theorem els_first {g : Int} (h0 : 0 ≤ g) (h4 : g < 4) : nth (els g) 0 = 1 := els_first_all g (g_mem h0 h4)
theorem els_rest_all : ∀ g ∈ [(0 : Int), 1, 2, 3], ∀ k ∈ List.range 23, 1 ≤ k → k < (els g).length → nth (els g) k ≠ 1 := by decide +kernel
theorem els_rest {g : Int} (h0 : 0 ≤ g) (h4 : g < 4) {k : Nat} (h1 : 1 ≤ k) (h2 : k < (els g).length) : nth (els g) k ≠ 1 :=
  els_rest_all g (g_mem h0 h4) k (List.mem_range.2 (by have := @els_len g; omega)) h1 h2
theorem powsTo_mem {g x y : Int} : ∀ j, y ∈ powsTo g x j → ∃ i, i < j ∧ y = gpow g x (i : Nat)
  | 0, h => by cases h
  | j + 1, h => by
    unfold powsTo at h
    rcases List.mem_append.1 h with h | h
    · obtain ⟨i, hi, e⟩ := powsTo_mem j h
      exact ⟨i, by omega, e⟩
    · exact ⟨j, by omega, by simpa using h⟩
theorem powers_ok {g : Int} (h0 : 0 ≤ g) (h4 : g < 4) {k n : Nat} (h1 : 1 ≤ k) (h2 : k < (els g).length) (h3 : n < (els g).length) :
    hasB (powsTo g (nth (els g) k) n) (gpow g (nth (els g) k) (n : Nat)) = false ∧ hasB (els g) (gpow g (nth (els g) k) (n : Nat)) = true ∧ powsTo g (nth (els g) k) (n + 1) = powsTo g (nth (els g) k) n ++ [gpow g (nth (els g) k) (n : Nat)] := by
  have hx : elB g (nth (els g) k) = true := elB_mem.2 (nth_mem h2)
  have hx1 := els_rest h0 h4 h1 h2
  have hl := els_ord h0 h4
  have ho := ord_bd h0 h4
  have hp : ∀ i : Nat, i < (els g).length → gpow g (nth (els g) k) (i : Nat) = pw (prm g) (nth (els g) k) i := fun i hi => by
    rw [gpow_gp hx (by omega) (by omega), gp_nat hx]
  refine ⟨?_, ?_, rfl⟩
  · cases hb : hasB (powsTo g (nth (els g) k) n) (gpow g (nth (els g) k) (n : Nat))
    · rfl
    · unfold hasB at hb
      rw [List.contains_iff_mem] at hb
      obtain ⟨i, hi, e⟩ := powsTo_mem n hb
      rw [hp n h3, hp i (by omega)] at e
      have a1 := glog_pow hx hx1 (k := n) (by omega)
      have a2 := glog_pow hx hx1 (k := i) (by omega)
      rw [e, a2] at a1
      omega
  · rw [hasB_els, gpow_gp hx (by omega) (by omega)]
    exact gp_el hx _

end Go.Proofs.YtiinifcepcaonaaDoor

/- Plain mathematics of chapter 2: keys, talks, secrets. -/
namespace Go.Proofs.YtiinifcepcaonaaDoor

def keyOf (g s : Int) : Int := if exB g s then gp g (bas g) s else -1
def tellOf (g secret further ask : Int) : Int := (further + ask * secret) % ord g
def sayUp (g key ask tell : Int) : Int := gp g (bas g) tell * gp g key (-ask) % prm g
def tokB (g key say ask tell : Int) : Bool := elB g key && elB g say && exB g ask && exB g tell && decide (gp g (bas g) tell = say * gp g key ask % prm g)
def secretOf (g a1 t1 a2 t2 : Int) : Int := (t1 - t2) % ord g * gback g ((a1 - a2) % ord g) % ord g

theorem bas_one {g : Int} (h0 : 0 ≤ g) (h4 : g < 4) : bas g ≠ 1 := by have := bas_bd h0 h4; omega
theorem ex_mod {g n : Int} (hx : exB g n = true) : n % ord g = n := by
  obtain ⟨_, h1, h2⟩ := exB_true.1 hx
  exact Int.emod_eq_of_lt h1 h2
theorem ex_of_mod {g : Int} (h0 : 0 ≤ g) (h4 : g < 4) (n : Int) : exB g (n % ord g) = true := by
  have o := ord_bd h0 h4
  exact exB_true.2 ⟨⟨h0, h4⟩, Int.emod_nonneg _ (by omega), Int.emod_lt_of_pos _ (by omega)⟩
theorem gp_mod (g a n : Int) : gp g a (n % ord g) = gp g a n := gp_congr (Int.emod_emod_of_dvd _ (Int.dvd_refl _))
/-- Powers of the base are equal just where the exponents are, by the order. -/
theorem gp_inj {g : Int} (h0 : 0 ≤ g) (h4 : g < 4) {m n : Int} : gp g (bas g) m = gp g (bas g) n ↔ m % ord g = n % ord g := by
  constructor
  · intro h
    rw [← glog_gp (bas_el h0 h4) (bas_one h0 h4) m, ← glog_gp (bas_el h0 h4) (bas_one h0 h4) n, h]
  · exact gp_congr
theorem el_gp {g a : Int} (ha : elB g a = true) : gp g (bas g) (glog g (bas g) a) = a := by
  obtain ⟨h0, h4⟩ := elB_group ha
  exact gp_glog (bas_el h0 h4) ha (bas_one h0 h4)
theorem glog_ex {g a : Int} (ha : elB g a = true) : exB g (glog g (bas g) a) = true := by
  obtain ⟨h0, h4⟩ := elB_group ha
  have s := glog_spec (bas_el h0 h4) ha (bas_one h0 h4)
  exact exB_true.2 ⟨⟨h0, h4⟩, s.1, s.2.1⟩

/-! ### KeyOf -/
theorem key_no {g s : Int} (h : exB g s = false) : keyOf g s = -1 := by simp [keyOf, h]
theorem key_yes {g s : Int} (h : exB g s = true) : keyOf g s = gp g (bas g) s := by simp [keyOf, h]
theorem key_el {g s : Int} (h : exB g s = true) : elB g (keyOf g s) = true := by
  obtain ⟨⟨h0, h4⟩, _⟩ := exB_true.1 h
  rw [key_yes h]; exact gp_el (bas_el h0 h4) s
theorem key_pos {g s : Int} (h : 0 ≤ keyOf g s) : exB g s = true := by
  cases hx : exB g s
  · rw [key_no hx] at h; omega
  · rfl
theorem key_neg {g s : Int} (h : keyOf g s < 0) : keyOf g s = -1 := by
  cases hx : exB g s
  · exact key_no hx
  · have := elB_bound (key_el hx); omega
theorem key_log {g s : Int} (h : exB g s = true) : glog g (bas g) (keyOf g s) = s := by
  obtain ⟨⟨h0, h4⟩, _⟩ := exB_true.1 h
  rw [key_yes h, glog_gp (bas_el h0 h4) (bas_one h0 h4), ex_mod h]

/-! ### talks -/
theorem tok_no {g key say ask tell : Int} (h : tokB g key say ask tell = false) : ¬ (elB g key = true ∧ elB g say = true ∧ exB g ask = true ∧ exB g tell = true ∧ gp g (bas g) tell = say * gp g key ask % prm g) := by
  intro ⟨h1, h2, h3, h4, h5⟩
  unfold tokB at h
  rw [h1, h2, h3, h4] at h
  simp at h
  exact h h5
theorem tok_yes {g key say ask tell : Int} : tokB g key say ask tell = true ↔ elB g key = true ∧ elB g say = true ∧ exB g ask = true ∧ exB g tell = true ∧ gp g (bas g) tell = say * gp g key ask % prm g := by
  unfold tokB; simp [and_assoc]
/-- A talk is right just where its answer is the one that the exponents give. -/
theorem tok_tell {g key say ask tell : Int} (hk : elB g key = true) (hs : elB g say = true) (ha : exB g ask = true) (ht : exB g tell = true) :
    tokB g key say ask tell = true ↔ tell = tellOf g (glog g (bas g) key) (glog g (bas g) say) ask := by
  obtain ⟨h0, h4⟩ := elB_group hk
  have e : say * gp g key ask % prm g = gp g (bas g) (glog g (bas g) say + ask * glog g (bas g) key) := by
    conv => lhs; rw [← el_gp hs, ← el_gp hk]
    rw [gp_gp (bas_el h0 h4), ← gp_add (bas_el h0 h4), Int.mul_comm (glog g (bas g) key) ask]
  rw [tok_yes, e]
  constructor
  · intro ⟨_, _, _, _, h⟩
    rw [gp_inj h0 h4, ex_mod ht] at h
    exact h
  · intro h
    refine ⟨hk, hs, ha, ht, ?_⟩
    rw [gp_inj h0 h4, h]
    exact Int.emod_emod_of_dvd _ (Int.dvd_refl _)
theorem tell_ex {g : Int} (h0 : 0 ≤ g) (h4 : g < 4) (s f a : Int) : exB g (tellOf g s f a) = true := ex_of_mod h0 h4 _
theorem talkOf_ok {g secret further ask : Int} (h1 : exB g secret = true) (h2 : exB g further = true) (h3 : exB g ask = true) :
    tokB g (keyOf g secret) (gp g (bas g) further) ask (tellOf g secret further ask) = true := by
  obtain ⟨⟨h0, h4⟩, _⟩ := exB_true.1 h1
  rw [tok_tell (key_el h1) (gp_el (bas_el h0 h4) _) h3 (tell_ex h0 h4 _ _ _), key_log h1, glog_gp (bas_el h0 h4) (bas_one h0 h4), ex_mod h2]
/-- The promise of TalkOk. -/
theorem tok_true_talk {g key say ask tell : Int} (hk : elB g key = true) (hs : elB g say = true) :
    tokB g key say ask tell = (exB g ask && decide (tellOf g (glog g (bas g) key) (glog g (bas g) say) ask = tell)) := by
  obtain ⟨h0, h4⟩ := elB_group hk
  cases ha : exB g ask
  · unfold tokB; rw [ha]; simp
  · by_cases e : tellOf g (glog g (bas g) key) (glog g (bas g) say) ask = tell
    · have ht : exB g tell = true := by rw [← e]; exact tell_ex h0 h4 _ _ _
      rw [(tok_tell hk hs ha ht).2 e.symm]; simp [e]
    · cases hb : tokB g key say ask tell
      · simp [e]
      · have ht := (tok_yes.1 hb).2.2.2.1
        exact absurd ((tok_tell hk hs ha ht).1 hb).symm e

/-! ### made up -/
theorem gp_zero (g a : Int) : gp g a 0 = 1 := by unfold gp; simp [pw]
theorem gp_neg_mul {g a : Int} (ha : elB g a = true) (n : Int) : gp g a n * gp g a (-n) % prm g = 1 := by rw [← gp_add ha, Int.add_right_neg, gp_zero]
theorem mulmod (a b p : Int) : a * (b % p) % p = a * b % p := by rw [Int.mul_emod, Int.emod_emod_of_dvd _ (Int.dvd_refl _), ← Int.mul_emod]
theorem modmul (a b p : Int) : a % p * b % p = a * b % p := by rw [Int.mul_emod, Int.emod_emod_of_dvd _ (Int.dvd_refl _), ← Int.mul_emod]
theorem el_mod {g a : Int} (ha : elB g a = true) : a % prm g = a := by
  obtain ⟨h1, h2, _⟩ := elB_bound ha
  exact Int.emod_eq_of_lt (by omega) h2
theorem mul_el {g a b : Int} (ha : elB g a = true) (hb : elB g b = true) : elB g (a * b % prm g) = true := by rw [← tim_yes ha hb]; exact tim_el ha hb
theorem sayUp_el {g key ask tell : Int} (hk : elB g key = true) : elB g (sayUp g key ask tell) = true := by
  obtain ⟨h0, h4⟩ := elB_group hk
  exact mul_el (gp_el (bas_el h0 h4) _) (gp_el hk _)
/-- The promise of MadeUp: of all elements just the one that is made up is right. -/
theorem made_only {g key e ask tell : Int} (hk : elB g key = true) (he : elB g e = true) (ha : exB g ask = true) (ht : exB g tell = true) : tokB g key e ask tell = decide (e = sayUp g key ask tell) := by
  obtain ⟨h0, h4⟩ := elB_group hk
  have i1 := gp_neg_mul hk ask
  by_cases h : e = sayUp g key ask tell
  · rw [decide_eq_true h]
    refine tok_yes.2 ⟨hk, he, ha, ht, ?_⟩
    rw [h]
    unfold sayUp
    rw [modmul, Int.mul_assoc, Int.mul_comm (gp g key (-ask)), ← mulmod, i1, Int.mul_one, el_mod (gp_el (bas_el h0 h4) _)]
  · rw [decide_eq_false h]
    cases hb : tokB g key e ask tell
    · rfl
    · refine absurd ?_ h
      have h5 := (tok_yes.1 hb).2.2.2.2
      unfold sayUp
      rw [h5, modmul, Int.mul_assoc, ← mulmod, i1, Int.mul_one, el_mod he]
theorem made_ok {g key ask tell : Int} (hk : elB g key = true) (ha : exB g ask = true) (ht : exB g tell = true) : tokB g key (sayUp g key ask tell) ask tell = true := by
  rw [made_only hk (sayUp_el hk) ha ht]; simp

/-! ### the secret -/
theorem secret_key {g key say a1 t1 a2 t2 : Int} (h1 : tokB g key say a1 t1 = true) (h2 : tokB g key say a2 t2 = true) (hne : a1 ≠ a2) : exB g (secretOf g a1 t1 a2 t2) = true ∧ keyOf g (secretOf g a1 t1 a2 t2) = key := by
  obtain ⟨hk, hs, e1, f1, _⟩ := tok_yes.1 h1
  obtain ⟨_, _, e2, f2, _⟩ := tok_yes.1 h2
  obtain ⟨h0, h4⟩ := elB_group hk
  have o := ord_bd h0 h4
  have hx : exB g (secretOf g a1 t1 a2 t2) = true := ex_of_mod h0 h4 _
  refine ⟨hx, ?_⟩
  have d1 := (tok_tell hk hs e1 f1).1 h1
  have d2 := (tok_tell hk hs e2 f2).1 h2
  have b1 := exB_true.1 e1
  have b2 := exB_true.1 e2
  have hd : exB g ((a1 - a2) % ord g) = true := ex_of_mod h0 h4 _
  have hnz : (a1 - a2) % ord g ≠ 0 := by
    intro h
    have := Int.emod_emod_of_dvd (a1 - a2) (Int.dvd_refl (ord g))
    have h' := Int.dvd_of_emod_eq_zero h
    obtain ⟨c, hc⟩ := h'
    have : c = 0 := by
      by_cases c1 : 0 < c
      · have := Int.mul_le_mul_of_nonneg_left (show (1 : Int) ≤ c by omega) (show 0 ≤ ord g by omega); omega
      · by_cases c2 : c < 0
        · have := Int.mul_le_mul_of_nonneg_left (show (1 : Int) ≤ -c by omega) (show 0 ≤ ord g by omega)
          rw [Int.mul_neg] at this; omega
        · omega
    rw [this] at hc; omega
  have hb : (a1 - a2) % ord g * gback g ((a1 - a2) % ord g) % ord g = 1 := by
    rcases back_prod hd with ⟨_, e⟩ | ⟨_, _, e⟩
    · exact absurd e hnz
    · exact e
  rw [key_yes hx, ← el_gp hk, gp_inj h0 h4]
  unfold secretOf
  rw [Int.emod_emod_of_dvd _ (Int.dvd_refl _)]
  generalize hL : glog g (bas g) key = L at *
  generalize hS : glog g (bas g) say = S at *
  have e3 : (t1 - t2) % ord g = (a1 - a2) % ord g * L % ord g := by
    rw [d1, d2]; unfold tellOf
    rw [← Int.sub_emod, modmul]
    congr 1
    rw [Int.sub_mul]; omega
  rw [e3, modmul, Int.mul_assoc, Int.mul_comm L, ← Int.mul_assoc, ← modmul, hb, Int.one_mul]

end Go.Proofs.YtiinifcepcaonaaDoor

/- Plain mathematics of relations: rows, what they make, all lots of exponents, talks on all rows: no program. -/
namespace Go.Proofs.YtiinifcepcaonaaDoor

/-- The row at place j. -/
def row (xss : List (List Int)) (j : Nat) : List Int := xss.getD j []
theorem row_get {xss : List (List Int)} {j : Nat} (h : j < xss.length) : row xss j = xss[j] := by
  unfold row; rw [List.getD_eq_getElem?_getD, List.getElem?_eq_getElem h]; rfl
theorem row_mem {xss : List (List Int)} {j : Nat} (h : j < xss.length) : row xss j ∈ xss := by rw [row_get h]; exact List.getElem_mem _
theorem row_out {xss : List (List Int)} {j : Nat} (h : xss.length ≤ j) : row xss j = [] := by unfold row; rw [List.getD_eq_getElem?_getD, List.getElem?_eq_none h]; rfl
theorem row_of {xss : List (List Int)} {ys : List Int} (h : ys ∈ xss) : ∃ j, j < xss.length ∧ row xss j = ys := by
  obtain ⟨j, hj, e⟩ := List.getElem_of_mem h
  exact ⟨j, hj, by rw [row_get hj]; exact e⟩
theorem nth_of {xs : List Int} {y : Int} (h : y ∈ xs) : ∃ j, j < xs.length ∧ nth xs j = y := by
  obtain ⟨j, hj, e⟩ := List.getElem_of_mem h
  exact ⟨j, hj, by rw [nth_get hj]; exact e⟩

def allEl (g : Int) (xs : List Int) : Bool := xs.all (elB g)
def allEx (g : Int) (xs : List Int) : Bool := xs.all (exB g)
theorem allEl_yes {g : Int} {xs : List Int} (h : ∀ j, j < xs.length → elB g (nth xs j) = true) : allEl g xs = true := by
  unfold allEl; rw [List.all_eq_true]; intro x hx
  obtain ⟨j, hj, rfl⟩ := nth_of hx; exact h j hj
theorem allEl_at {g : Int} {xs : List Int} (h : allEl g xs = true) {j : Nat} (hj : j < xs.length) : elB g (nth xs j) = true := List.all_eq_true.1 h _ (nth_mem hj)
theorem allEl_no {g : Int} {xs : List Int} {j : Nat} (hj : j < xs.length) (h : elB g (nth xs j) = false) : allEl g xs = false := by
  cases hb : allEl g xs
  · rfl
  · rw [allEl_at hb hj] at h; cases h
theorem allEx_yes {g : Int} {xs : List Int} (h : ∀ j, j < xs.length → exB g (nth xs j) = true) : allEx g xs = true := by
  unfold allEx; rw [List.all_eq_true]; intro x hx
  obtain ⟨j, hj, rfl⟩ := nth_of hx; exact h j hj
theorem allEx_at {g : Int} {xs : List Int} (h : allEx g xs = true) {j : Nat} (hj : j < xs.length) : exB g (nth xs j) = true := List.all_eq_true.1 h _ (nth_mem hj)
theorem allEx_no {g : Int} {xs : List Int} {j : Nat} (hj : j < xs.length) (h : exB g (nth xs j) = false) : allEx g xs = false := by
  cases hb : allEx g xs
  · rfl
  · rw [allEx_at hb hj] at h; cases h

/-- How many unknown exponents. -/
def unk (rows : List (List Int)) : Nat := (row rows 0).length
def rowOk (g : Int) (u : Nat) (xs : List Int) : Bool := decide (xs.length = u) && allEl g xs
structure Cl (g : Int) (rows : List (List Int)) (makes : List Int) : Prop where
  g0 : 0 ≤ g
  g4 : g < 4
  r1 : 1 ≤ rows.length
  r3 : rows.length ≤ 3
  m : makes.length = rows.length
  u1 : 1 ≤ unk rows
  u2 : unk rows ≤ 2
  row : ∀ j, j < rows.length → (row rows j).length = unk rows ∧ allEl g (row rows j) = true
  makes : allEl g makes = true
def clB (g : Int) (rows : List (List Int)) (makes : List Int) : Bool :=
  gok g && (decide (1 ≤ rows.length) && (decide (rows.length ≤ 3) && (decide (makes.length = rows.length) && (decide (1 ≤ unk rows) && (decide (unk rows ≤ 2) && (rows.all (rowOk g (unk rows)) && allEl g makes))))))
theorem clB_true {g : Int} {rows : List (List Int)} {makes : List Int} : clB g rows makes = true ↔ Cl g rows makes := by
  unfold clB
  simp only [Bool.and_eq_true, gok_true, decide_eq_true_eq, List.all_eq_true]
  constructor
  · rintro ⟨⟨h0, h4⟩, h1, h2, h3, h5, h6, h7, h8⟩
    refine ⟨h0, h4, h1, h2, h3, h5, h6, fun j hj => ?_, h8⟩
    have := h7 _ (row_mem hj)
    unfold rowOk at this; simpa using this
  · intro h
    refine ⟨⟨h.g0, h.g4⟩, h.r1, h.r3, h.m, h.u1, h.u2, fun xs hx => ?_, h.makes⟩
    obtain ⟨j, hj, rfl⟩ := row_of hx
    have := h.row j hj
    unfold rowOk; simp [this.1, this.2]
theorem clB_false {g : Int} {rows : List (List Int)} {makes : List Int} (h : ¬ Cl g rows makes) : clB g rows makes = false := by
  cases hb : clB g rows makes
  · rfl
  · exact absurd (clB_true.1 hb) h
theorem cl_false {g : Int} {rows : List (List Int)} {makes : List Int} (h : clB g rows makes = false) : ¬ Cl g rows makes := fun k => by rw [clB_true.2 k] at h; cases h

/-- An exponent for each unknown one. -/
structure Lot (g : Int) (rows : List (List Int)) (makes es : List Int) : Prop where
  cl : Cl g rows makes
  len : es.length = unk rows
  ex : allEx g es = true
def lotB (g : Int) (rows : List (List Int)) (makes es : List Int) : Bool := clB g rows makes && (decide (es.length = unk rows) && allEx g es)
theorem lotB_true {g : Int} {rows : List (List Int)} {makes es : List Int} : lotB g rows makes es = true ↔ Lot g rows makes es := by
  unfold lotB
  simp only [Bool.and_eq_true, clB_true, decide_eq_true_eq]
  exact ⟨fun ⟨a, b, c⟩ => ⟨a, b, c⟩, fun h => ⟨h.cl, h.len, h.ex⟩⟩
theorem lotB_false {g : Int} {rows : List (List Int)} {makes es : List Int} (h : ¬ Lot g rows makes es) : lotB g rows makes es = false := by
  cases hb : lotB g rows makes es
  · rfl
  · exact absurd (lotB_true.1 hb) h

/-- What the first j places of a row make. -/
def prodTo (g : Int) (xs es : List Int) : Nat → Int
  | 0 => 1
  | j + 1 => tim g (prodTo g xs es j) (gpow g (nth xs j) (nth es j))
theorem prodTo_succ (g : Int) (xs es : List Int) (j : Nat) : prodTo g xs es (j + 1) = tim g (prodTo g xs es j) (gpow g (nth xs j) (nth es j)) := rfl
/-- What the first k rows make. -/
def mkTo (g : Int) (rows : List (List Int)) (es : List Int) : Nat → List Int
  | 0 => []
  | k + 1 => mkTo g rows es k ++ [prodTo g (row rows k) es es.length]
theorem mkTo_succ (g : Int) (rows : List (List Int)) (es : List Int) (k : Nat) : mkTo g rows es (k + 1) = mkTo g rows es k ++ [prodTo g (row rows k) es es.length] := rfl
theorem mkTo_len (g : Int) (rows : List (List Int)) (es : List Int) : ∀ k, (mkTo g rows es k).length = k
  | 0 => rfl
  | k + 1 => by rw [mkTo_succ, List.length_append, mkTo_len g rows es k]; rfl
theorem nth_app {xs : List Int} {y : Int} {j : Nat} : nth (xs ++ [y]) j = if j < xs.length then nth xs j else if j = xs.length then y else 0 := by
  unfold nth
  rw [List.getD_eq_getElem?_getD, List.getD_eq_getElem?_getD]
  by_cases h : j < xs.length
  · rw [if_pos h, List.getElem?_append_left h]
  · rw [if_neg h, List.getElem?_append_right (by omega)]
    by_cases e : j = xs.length
    · rw [if_pos e, e, Nat.sub_self]; rfl
    · rw [if_neg e, List.getElem?_eq_none (by simp; omega)]; rfl
theorem mkTo_nth (g : Int) (rows : List (List Int)) (es : List Int) : ∀ n k, k < n → nth (mkTo g rows es n) k = prodTo g (row rows k) es es.length
  | 0, k, h => by omega
  | n + 1, k, h => by
    rw [mkTo_succ, nth_app, mkTo_len]
    by_cases e : k < n
    · rw [if_pos e]; exact mkTo_nth g rows es n k e
    · obtain rfl : k = n := by omega
      rw [if_neg e, if_pos rfl]
def mkAll (g : Int) (rows : List (List Int)) (es : List Int) : List Int := mkTo g rows es rows.length
theorem mkAll_len (g : Int) (rows : List (List Int)) (es : List Int) : (mkAll g rows es).length = rows.length := mkTo_len _ _ _ _
def rmk (g : Int) (rows : List (List Int)) (makes es : List Int) : List Int := if lotB g rows makes es then mkAll g rows es else []
theorem rmk_yes {g : Int} {rows : List (List Int)} {makes es : List Int} (h : lotB g rows makes es = true) : rmk g rows makes es = mkAll g rows es := by simp [rmk, h]
theorem rmk_no {g : Int} {rows : List (List Int)} {makes es : List Int} (h : lotB g rows makes es = false) : rmk g rows makes es = [] := by simp [rmk, h]
theorem rmk_len (g : Int) (rows : List (List Int)) (makes es : List Int) : (rmk g rows makes es).length ≤ 3 := by
  cases h : lotB g rows makes es
  · rw [rmk_no h]; simp
  · rw [rmk_yes h, mkAll_len]; exact (lotB_true.1 h).cl.r3
def solvB (g : Int) (rows : List (List Int)) (makes es : List Int) : Bool := lotB g rows makes es && sameB (mkAll g rows es) makes
theorem solv_no {g : Int} {rows : List (List Int)} {makes es : List Int} (h : lotB g rows makes es = false) : solvB g rows makes es = false := by simp [solvB, h]
theorem solv_yes {g : Int} {rows : List (List Int)} {makes es : List Int} (h : lotB g rows makes es = true) : solvB g rows makes es = sameB (mkAll g rows es) makes := by simp [solvB, h]

theorem one_el {g : Int} (h0 : 0 ≤ g) (h4 : g < 4) : elB g 1 = true := by rcases g_cases h0 h4 with rfl | rfl | rfl | rfl <;> decide
theorem ex_pow {g n : Int} (hx : exB g n = true) : -9999 ≤ n ∧ n ≤ 9999 := by
  obtain ⟨⟨h0, h4⟩, n0, n1⟩ := exB_true.1 hx
  have := ord_bd h0 h4; omega
theorem gpow_ex {g a n : Int} (ha : elB g a = true) (hx : exB g n = true) : gpow g a n = gp g a n := gpow_gp ha (ex_pow hx).1 (ex_pow hx).2
/-- What a row makes so far is an element. -/
theorem prodTo_el {g : Int} {xs es : List Int} (h0 : 0 ≤ g) (h4 : g < 4) (hx : allEl g xs = true) (he : allEx g es = true) : ∀ j, j ≤ xs.length → j ≤ es.length → elB g (prodTo g xs es j) = true
  | 0, _, _ => one_el h0 h4
  | j + 1, h1, h2 => by
    rw [prodTo_succ]
    refine tim_el (prodTo_el h0 h4 hx he j (by omega) (by omega)) ?_
    rw [gpow_ex (allEl_at hx (by omega)) (allEx_at he (by omega))]
    exact gp_el (allEl_at hx (by omega)) _
theorem Lot.prod_el {g : Int} {rows : List (List Int)} {makes es : List Int} (h : Lot g rows makes es) {k : Nat} (hk : k < rows.length) {j : Nat} (hj : j ≤ es.length) : elB g (prodTo g (row rows k) es j) = true :=
  prodTo_el h.cl.g0 h.cl.g4 (h.cl.row k hk).2 h.ex j (by have := (h.cl.row k hk).1; have := h.len; omega) hj
theorem Lot.mk_el {g : Int} {rows : List (List Int)} {makes es : List Int} (h : Lot g rows makes es) : allEl g (mkAll g rows es) = true := allEl_yes fun j hj => by
  rw [mkAll_len] at hj
  rw [show nth (mkAll g rows es) j = _ from mkTo_nth g rows es _ j hj]
  exact h.prod_el hj (Nat.le_refl _)

/-- A list of elements, each times the power of what its row makes. -/
def timesTo (g : Int) (xs makes : List Int) (p : Int) : Nat → List Int
  | 0 => []
  | k + 1 => timesTo g xs makes p k ++ [tim g (nth xs k) (gpow g (nth makes k) p)]
theorem timesTo_succ (g : Int) (xs makes : List Int) (p : Int) (k : Nat) : timesTo g xs makes p (k + 1) = timesTo g xs makes p k ++ [tim g (nth xs k) (gpow g (nth makes k) p)] := rfl
theorem timesTo_len (g : Int) (xs makes : List Int) (p : Int) : ∀ k, (timesTo g xs makes p k).length = k
  | 0 => rfl
  | k + 1 => by rw [timesTo_succ, List.length_append, timesTo_len g xs makes p k]; rfl
theorem timesTo_nth (g : Int) (xs makes : List Int) (p : Int) : ∀ n k, k < n → nth (timesTo g xs makes p n) k = tim g (nth xs k) (gpow g (nth makes k) p)
  | 0, k, h => by omega
  | n + 1, k, h => by
    rw [timesTo_succ, nth_app, timesTo_len]
    by_cases e : k < n
    · rw [if_pos e]; exact timesTo_nth g xs makes p n k e
    · obtain rfl : k = n := by omega
      rw [if_neg e, if_pos rfl]
def timesAll (g : Int) (xs makes : List Int) (p : Int) : List Int := timesTo g xs makes p xs.length
theorem timesAll_len (g : Int) (xs makes : List Int) (p : Int) : (timesAll g xs makes p).length = xs.length := timesTo_len _ _ _ _ _

theorem list_eq {xs ys : List Int} (hl : xs.length = ys.length) (h : ∀ j, j < xs.length → nth xs j = nth ys j) : xs = ys := by
  refine List.ext_getElem hl fun j h1 h2 => ?_
  rw [← nth_get h1, ← nth_get h2]; exact h j h1
def wokB (g : Int) (rows : List (List Int)) (makes says : List Int) (ask : Int) (tells : List Int) : Bool :=
  clB g rows makes && (decide (says.length = rows.length) && (allEl g says && (lotB g rows makes tells && (exB g ask && sameB (mkAll g rows tells) (timesAll g says makes ask)))))
structure Wok (g : Int) (rows : List (List Int)) (makes says : List Int) (ask : Int) (tells : List Int) : Prop where
  lot : Lot g rows makes tells
  len : says.length = rows.length
  el : allEl g says = true
  ex : exB g ask = true
  same : mkAll g rows tells = timesAll g says makes ask
theorem wok_true {g : Int} {rows : List (List Int)} {makes says : List Int} {ask : Int} {tells : List Int} : wokB g rows makes says ask tells = true ↔ Wok g rows makes says ask tells := by
  unfold wokB sameB
  simp only [Bool.and_eq_true, clB_true, lotB_true, decide_eq_true_eq]
  exact ⟨fun ⟨_, b, c, d, e, f⟩ => ⟨d, b, c, e, f⟩, fun h => ⟨h.lot.cl, h.len, h.el, h.lot, h.ex, h.same⟩⟩
theorem wok_false {g : Int} {rows : List (List Int)} {makes says : List Int} {ask : Int} {tells : List Int} (h : ¬ Wok g rows makes says ask tells) : wokB g rows makes says ask tells = false := by
  cases hb : wokB g rows makes says ask tells
  · rfl
  · exact absurd (wok_true.1 hb) h

def tellsTo (g : Int) (es further : List Int) (ask : Int) : Nat → List Int
  | 0 => []
  | k + 1 => tellsTo g es further ask k ++ [(nth further k + ask * nth es k) % ord g]
theorem tellsTo_succ (g : Int) (es further : List Int) (ask : Int) (k : Nat) : tellsTo g es further ask (k + 1) = tellsTo g es further ask k ++ [(nth further k + ask * nth es k) % ord g] := rfl
theorem tellsTo_len (g : Int) (es further : List Int) (ask : Int) : ∀ k, (tellsTo g es further ask k).length = k
  | 0 => rfl
  | k + 1 => by rw [tellsTo_succ, List.length_append, tellsTo_len g es further ask k]; rfl
theorem tellsTo_nth (g : Int) (es further : List Int) (ask : Int) : ∀ n k, k < n → nth (tellsTo g es further ask n) k = (nth further k + ask * nth es k) % ord g
  | 0, k, h => by omega
  | n + 1, k, h => by
    rw [tellsTo_succ, nth_app, tellsTo_len]
    by_cases e : k < n
    · rw [if_pos e]; exact tellsTo_nth g es further ask n k e
    · obtain rfl : k = n := by omega
      rw [if_neg e, if_pos rfl]
def tellsAll (g : Int) (es further : List Int) (ask : Int) : List Int := tellsTo g es further ask es.length

def fromTo (g : Int) (t1 t2 : List Int) (a1 a2 : Int) : Nat → List Int
  | 0 => []
  | k + 1 => fromTo g t1 t2 a1 a2 k ++ [secretOf g a1 (nth t1 k) a2 (nth t2 k)]
theorem fromTo_succ (g : Int) (t1 t2 : List Int) (a1 a2 : Int) (k : Nat) : fromTo g t1 t2 a1 a2 (k + 1) = fromTo g t1 t2 a1 a2 k ++ [secretOf g a1 (nth t1 k) a2 (nth t2 k)] := rfl
theorem fromTo_len (g : Int) (t1 t2 : List Int) (a1 a2 : Int) : ∀ k, (fromTo g t1 t2 a1 a2 k).length = k
  | 0 => rfl
  | k + 1 => by rw [fromTo_succ, List.length_append, fromTo_len g t1 t2 a1 a2 k]; rfl
theorem fromTo_nth (g : Int) (t1 t2 : List Int) (a1 a2 : Int) : ∀ n k, k < n → nth (fromTo g t1 t2 a1 a2 n) k = secretOf g a1 (nth t1 k) a2 (nth t2 k)
  | 0, k, h => by omega
  | n + 1, k, h => by
    rw [fromTo_succ, nth_app, fromTo_len]
    by_cases e : k < n
    · rw [if_pos e]; exact fromTo_nth g t1 t2 a1 a2 n k e
    · obtain rfl : k = n := by omega
      rw [if_neg e, if_pos rfl]

/-- A list made longer by each of the first n numbers. -/
def extTo (xs : List Int) : Nat → List (List Int)
  | 0 => []
  | n + 1 => extTo xs n ++ [xs ++ [(n : Int)]]
def longTo (q : Nat) (xss : List (List Int)) : Nat → List (List Int)
  | 0 => []
  | j + 1 => longTo q xss j ++ extTo (row xss j) q
def lots (q : Nat) : Nat → List (List Int)
  | 0 => [[]]
  | m + 1 => longTo q (lots q m) (lots q m).length
theorem extTo_len (xs : List Int) : ∀ n, (extTo xs n).length = n
  | 0 => rfl
  | n + 1 => by unfold extTo; rw [List.length_append, extTo_len xs n]; rfl
theorem longTo_len (q : Nat) (xss : List (List Int)) : ∀ j, (longTo q xss j).length = j * q
  | 0 => by unfold longTo; simp
  | j + 1 => by unfold longTo; rw [List.length_append, longTo_len q xss j, extTo_len, Nat.succ_mul]
theorem lots_len (q : Nat) : ∀ m, (lots q m).length = q ^ m
  | 0 => rfl
  | m + 1 => by unfold lots; rw [longTo_len, lots_len q m, Nat.pow_succ]
theorem ext_mem {xs ys : List Int} {n : Nat} : ys ∈ extTo xs n ↔ ∃ k : Nat, k < n ∧ ys = xs ++ [(k : Int)] := by
  induction n with
  | zero => simp [extTo]
  | succ n ih =>
    unfold extTo
    rw [List.mem_append, ih, List.mem_singleton]
    constructor
    · rintro (⟨k, hk, e⟩ | e)
      · exact ⟨k, by omega, e⟩
      · exact ⟨n, by omega, e⟩
    · rintro ⟨k, hk, e⟩
      by_cases h : k < n
      · exact .inl ⟨k, h, e⟩
      · obtain rfl : k = n := by omega
        exact .inr e
theorem long_mem {q : Nat} {xss : List (List Int)} {ys : List Int} {n : Nat} : ys ∈ longTo q xss n ↔ ∃ j k : Nat, j < n ∧ k < q ∧ ys = row xss j ++ [(k : Int)] := by
  induction n with
  | zero => simp [longTo]
  | succ n ih =>
    unfold longTo
    rw [List.mem_append, ih, ext_mem]
    constructor
    · rintro (⟨j, k, hj, hk, e⟩ | ⟨k, hk, e⟩)
      · exact ⟨j, k, by omega, hk, e⟩
      · exact ⟨n, k, by omega, hk, e⟩
    · rintro ⟨j, k, hj, hk, e⟩
      by_cases h : j < n
      · exact .inl ⟨j, k, h, hk, e⟩
      · obtain rfl : j = n := by omega
        exact .inr ⟨k, hk, e⟩
theorem lots_mem {q : Nat} : ∀ {m : Nat} {ys : List Int}, ys ∈ lots q m ↔ ys.length = m ∧ ∀ y ∈ ys, 0 ≤ y ∧ y < q
  | 0, ys => by
    unfold lots
    rw [List.mem_singleton]
    constructor
    · rintro rfl; exact ⟨rfl, by simp⟩
    · rintro ⟨h, _⟩; exact List.length_eq_zero_iff.1 h
  | m + 1, ys => by
    unfold lots
    rw [long_mem]
    constructor
    · rintro ⟨j, k, hj, hk, rfl⟩
      obtain ⟨h1, h2⟩ := lots_mem.1 (row_mem hj)
      refine ⟨by simp [h1], fun y hy => ?_⟩
      rw [List.mem_append, List.mem_singleton] at hy
      rcases hy with hy | rfl
      · exact h2 y hy
      · omega
    · rintro ⟨h1, h2⟩
      have hne : ys ≠ [] := by rintro rfl; simp at h1
      have hx : ys.dropLast ∈ lots q m := lots_mem.2 ⟨by simp [h1], fun y hy => h2 y (List.dropLast_subset _ hy)⟩
      obtain ⟨j, hj, e⟩ := row_of hx
      obtain ⟨y0, y1⟩ := h2 _ (List.getLast_mem hne)
      refine ⟨j, (ys.getLast hne).toNat, hj, by omega, ?_⟩
      rw [e, Int.toNat_of_nonneg y0, List.dropLast_concat_getLast]

/-- The rows of a list that meet a condition. -/
def solTo (c : List Int → Bool) (xss : List (List Int)) : Nat → List (List Int)
  | 0 => []
  | k + 1 => if c (row xss k) then solTo c xss k ++ [row xss k] else solTo c xss k
theorem solTo_yes {c : List Int → Bool} {xss : List (List Int)} {k : Nat} (h : c (row xss k) = true) : solTo c xss (k + 1) = solTo c xss k ++ [row xss k] := by simp [solTo, h]
theorem solTo_no {c : List Int → Bool} {xss : List (List Int)} {k : Nat} (h : c (row xss k) = false) : solTo c xss (k + 1) = solTo c xss k := by simp [solTo, h]
theorem solTo_len (c : List Int → Bool) (xss : List (List Int)) : ∀ k, (solTo c xss k).length ≤ k
  | 0 => Nat.le_refl _
  | k + 1 => by
    have := solTo_len c xss k
    cases h : c (row xss k)
    · rw [solTo_no h]; omega
    · rw [solTo_yes h, List.length_append]; simp; omega
def sols (g : Int) (rows : List (List Int)) (makes : List Int) : List (List Int) :=
  if clB g rows makes then solTo (solvB g rows makes) (lots (ord g).toNat (unk rows)) ((ord g).toNat ^ unk rows) else []
theorem ex_lots {g : Int} {rows : List (List Int)} {makes es : List Int} (h : Cl g rows makes) : es ∈ lots (ord g).toNat (unk rows) ↔ Lot g rows makes es := by
  have ho := ord_bd h.g0 h.g4
  rw [lots_mem]
  constructor
  · rintro ⟨h1, h2⟩
    refine ⟨h, h1, allEx_yes fun j hj => ?_⟩
    have := h2 _ (nth_mem hj)
    exact exB_true.2 ⟨⟨h.g0, h.g4⟩, by omega, by omega⟩
  · intro hl
    refine ⟨hl.len, fun y hy => ?_⟩
    obtain ⟨j, hj, rfl⟩ := nth_of hy
    obtain ⟨_, a, b⟩ := exB_true.1 (allEx_at hl.ex hj)
    omega

end Go.Proofs.YtiinifcepcaonaaDoor

/- The promises on relations, as plain mathematics: by logarithms all of them are sums by the order. -/
namespace Go.Proofs.YtiinifcepcaonaaDoor

def Cg (q a b : Int) : Prop := ∃ k, a = b + q * k
theorem cg_mod {q a b : Int} : a % q = b % q ↔ Cg q a b := by
  constructor
  · intro h
    refine ⟨a / q - b / q, ?_⟩
    have h1 := Int.emod_add_mul_ediv a q
    have h2 := Int.emod_add_mul_ediv b q
    grind
  · rintro ⟨k, rfl⟩
    exact Int.add_mul_emod_self_left b q k
theorem Cg.refl (q a : Int) : Cg q a a := ⟨0, by grind⟩
theorem Cg.symm {q a b : Int} (h : Cg q a b) : Cg q b a := cg_mod.1 (cg_mod.2 h).symm
theorem Cg.trans {q a b c : Int} (h : Cg q a b) (k : Cg q b c) : Cg q a c := cg_mod.1 ((cg_mod.2 h).trans (cg_mod.2 k))
theorem Cg.rem (q a : Int) : Cg q (a % q) a := cg_mod.1 (Int.emod_emod_of_dvd _ (Int.dvd_refl _))
theorem Cg.add {q a b c d : Int} (h : Cg q a b) (k : Cg q c d) : Cg q (a + c) (b + d) := by
  obtain ⟨x, rfl⟩ := h; obtain ⟨y, rfl⟩ := k; exact ⟨x + y, by grind⟩
theorem Cg.mul {q a b : Int} (c : Int) (h : Cg q a b) : Cg q (c * a) (c * b) := by
  obtain ⟨x, rfl⟩ := h; exact ⟨c * x, by grind⟩
theorem gp_cg {g : Int} (h0 : 0 ≤ g) (h4 : g < 4) {m n : Int} : gp g (bas g) m = gp g (bas g) n ↔ Cg (ord g) m n := (gp_inj h0 h4).trans cg_mod

/-- The logarithm of an element. -/
def lg (g a : Int) : Int := glog g (bas g) a
def dotTo (g : Int) (xs es : List Int) : Nat → Int
  | 0 => 0
  | j + 1 => dotTo g xs es j + lg g (nth xs j) * nth es j
theorem dotTo_succ (g : Int) (xs es : List Int) (j : Nat) : dotTo g xs es (j + 1) = dotTo g xs es j + lg g (nth xs j) * nth es j := rfl
theorem gp_lg {g a : Int} (ha : elB g a = true) (n : Int) : gp g a n = gp g (bas g) (lg g a * n) := by
  obtain ⟨h0, h4⟩ := elB_group ha
  rw [← gp_gp (bas_el h0 h4), show gp g (bas g) (lg g a) = a from el_gp ha]
theorem el_lg {g a : Int} (ha : elB g a = true) : a = gp g (bas g) (lg g a) := (el_gp ha).symm
theorem tim_gp {g : Int} (h0 : 0 ≤ g) (h4 : g < 4) (m n : Int) : tim g (gp g (bas g) m) (gp g (bas g) n) = gp g (bas g) (m + n) := by
  rw [tim_yes (gp_el (bas_el h0 h4) _) (gp_el (bas_el h0 h4) _), ← gp_add (bas_el h0 h4)]
theorem prod_log {g : Int} {xs es : List Int} (h0 : 0 ≤ g) (h4 : g < 4) (hx : allEl g xs = true) (he : allEx g es = true) : ∀ j, j ≤ xs.length → j ≤ es.length → prodTo g xs es j = gp g (bas g) (dotTo g xs es j)
  | 0, _, _ => by rw [show dotTo g xs es 0 = 0 from rfl, gp_zero]; rfl
  | j + 1, h1, h2 => by
    have hxj := allEl_at hx (show j < xs.length by omega)
    rw [prodTo_succ, prod_log h0 h4 hx he j (by omega) (by omega), gpow_ex hxj (allEx_at he (by omega)), gp_lg hxj, tim_gp h0 h4, dotTo_succ]
theorem dot_lin {g q c : Int} {xs es fs hs : List Int} : ∀ n, (∀ j, j < n → Cg q (nth hs j) (nth es j + c * nth fs j)) → Cg q (dotTo g xs hs n) (dotTo g xs es n + c * dotTo g xs fs n)
  | 0, _ => ⟨0, by simp [dotTo]⟩
  | n + 1, h => by
    obtain ⟨k, hk⟩ := dot_lin n (fun j hj => h j (by omega))
    obtain ⟨m, hm⟩ := h n (by omega)
    refine ⟨k + lg g (nth xs n) * m, ?_⟩
    rw [dotTo_succ, dotTo_succ, dotTo_succ, hk, hm]
    grind

/-- What row k makes, by its logarithm. -/
def dotR (g : Int) (rows : List (List Int)) (k : Nat) (es : List Int) : Int := dotTo g (row rows k) es es.length
theorem Lot.prod {g : Int} {rows : List (List Int)} {makes es : List Int} (h : Lot g rows makes es) {k : Nat} (hk : k < rows.length) : prodTo g (row rows k) es es.length = gp g (bas g) (dotR g rows k es) :=
  prod_log h.cl.g0 h.cl.g4 (h.cl.row k hk).2 h.ex _ (by have := (h.cl.row k hk).1; have := h.len; omega) (Nat.le_refl _)
theorem Lot.mk_nth {g : Int} {rows : List (List Int)} {makes es : List Int} (h : Lot g rows makes es) {k : Nat} (hk : k < rows.length) : nth (mkAll g rows es) k = gp g (bas g) (dotR g rows k es) := by
  rw [← h.prod hk]; exact mkTo_nth g rows es _ k hk
theorem dotR_lin {g q c : Int} {rows : List (List Int)} {k : Nat} {es fs hs : List Int} (h1 : es.length = hs.length) (h2 : fs.length = hs.length) (h : ∀ j, j < hs.length → Cg q (nth hs j) (nth es j + c * nth fs j)) : Cg q (dotR g rows k hs) (dotR g rows k es + c * dotR g rows k fs) := by
  unfold dotR; rw [h1, h2]; exact dot_lin _ h
theorem list_ext {xs ys : List Int} (hl : xs.length = ys.length) (h : ∀ j, j < xs.length → nth xs j = nth ys j) : xs = ys := by
  refine List.ext_getElem hl fun j h1 h2 => ?_
  rw [← nth_get h1, ← nth_get h2]; exact h j h1

/-- A relation is solved exactly if all sums are the logarithms. -/
theorem Lot.solved {g : Int} {rows : List (List Int)} {makes es : List Int} (h : Lot g rows makes es) : mkAll g rows es = makes ↔ ∀ k, k < rows.length → Cg (ord g) (dotR g rows k es) (lg g (nth makes k)) := by
  have hm : ∀ k, k < rows.length → elB g (nth makes k) = true := fun k hk => allEl_at h.cl.makes (by rw [h.cl.m]; exact hk)
  constructor
  · intro e k hk
    have := h.mk_nth hk
    rw [e, el_lg (hm k hk)] at this
    exact ((gp_cg h.cl.g0 h.cl.g4).1 this).symm
  · intro hc
    refine list_ext (by rw [mkAll_len, h.cl.m]) fun k hk => ?_
    rw [mkAll_len] at hk
    rw [h.mk_nth hk, el_lg (hm k hk)]
    exact (gp_cg h.cl.g0 h.cl.g4).2 (hc k hk)
theorem solv_true {g : Int} {rows : List (List Int)} {makes es : List Int} : solvB g rows makes es = true ↔ Lot g rows makes es ∧ mkAll g rows es = makes := by
  unfold solvB sameB; simp only [Bool.and_eq_true, lotB_true, decide_eq_true_eq]

/-- Right talks: for each row the sum of the answers is the logarithm of what was said and the question times that of what the row makes. -/
theorem wok_log {g : Int} {rows : List (List Int)} {makes says : List Int} {ask : Int} {tells : List Int} (hl : Lot g rows makes tells) (hs : says.length = rows.length) (he : allEl g says = true) (ha : exB g ask = true) :
    mkAll g rows tells = timesAll g says makes ask ↔ ∀ k, k < rows.length → Cg (ord g) (dotR g rows k tells) (lg g (nth says k) + ask * lg g (nth makes k)) := by
  have g0 := hl.cl.g0
  have g4 := hl.cl.g4
  have hm : ∀ k, k < rows.length → elB g (nth makes k) = true := fun k hk => allEl_at hl.cl.makes (by rw [hl.cl.m]; exact hk)
  have hn : ∀ k, k < rows.length → nth (timesAll g says makes ask) k = gp g (bas g) (lg g (nth says k) + ask * lg g (nth makes k)) := fun k hk => by
    have hsk := allEl_at he (show k < says.length by omega)
    rw [show nth (timesAll g says makes ask) k = _ from timesTo_nth g says makes ask _ k (by omega), gpow_ex (hm k hk) ha, gp_lg (hm k hk)]
    rw [show tim g (nth says k) (gp g (bas g) (lg g (nth makes k) * ask)) = tim g (gp g (bas g) (lg g (nth says k))) (gp g (bas g) (lg g (nth makes k) * ask)) by rw [← el_lg hsk], tim_gp g0 g4, Int.mul_comm ask]
  constructor
  · intro e k hk
    have := hl.mk_nth hk
    rw [e, hn k hk] at this
    exact ((gp_cg g0 g4).1 this).symm
  · intro hc
    refine list_ext (by rw [mkAll_len, timesAll_len, hs]) fun k hk => ?_
    rw [mkAll_len] at hk
    rw [hl.mk_nth hk, hn k hk]
    exact (gp_cg g0 g4).2 (hc k hk)

theorem tellsAll_lot {g : Int} {rows : List (List Int)} {makes es further : List Int} (h1 : Lot g rows makes es) (ask : Int) : Lot g rows makes (tellsAll g es further ask) :=
  ⟨h1.cl, by unfold tellsAll; rw [tellsTo_len]; exact h1.len, allEx_yes fun j hj => by
    unfold tellsAll at hj; rw [tellsTo_len] at hj
    rw [show nth (tellsAll g es further ask) j = _ from tellsTo_nth g es further ask _ j hj]
    exact ex_of_mod h1.cl.g0 h1.cl.g4 _⟩
/-- True talks are right. -/
theorem words_ok {g : Int} {rows : List (List Int)} {makes es further : List Int} {ask : Int} (h1 : Lot g rows makes es) (hs : mkAll g rows es = makes) (h2 : Lot g rows makes further) (ha : exB g ask = true) :
    wokB g rows makes (mkAll g rows further) ask (tellsAll g es further ask) = true := by
  have hl := tellsAll_lot (further := further) h1 ask
  refine wok_true.2 ⟨hl, mkAll_len _ _ _, h2.mk_el, ha, (wok_log hl (mkAll_len _ _ _) h2.mk_el ha).2 fun k hk => ?_⟩
  have hlen : (tellsAll g es further ask).length = es.length := tellsTo_len _ _ _ _ _
  have d1 := dotR_lin (g := g) (rows := rows) (k := k) (q := ord g) (c := ask) (es := further) (fs := es) (hs := tellsAll g es further ask) (by rw [hlen, h1.len, h2.len]) hlen.symm (fun j hj => by
    rw [hlen] at hj
    rw [show nth (tellsAll g es further ask) j = _ from tellsTo_nth g es further ask _ j hj]; exact Cg.rem _ _)
  have d2 := (h1.solved.1 hs) k hk
  have d3 : Cg (ord g) (lg g (nth (mkAll g rows further) k)) (dotR g rows k further) := by
    have e := el_lg (allEl_at h2.mk_el (show k < (mkAll g rows further).length by rw [mkAll_len]; exact hk))
    rw [h2.mk_nth hk] at e
    have := ((gp_cg h1.cl.g0 h1.cl.g4).1 e).symm
    rwa [h2.mk_nth hk]
  exact d1.trans (Cg.add d3.symm (d2.mul ask))

/-- What is said, made up. -/
def saysUp (g : Int) (rows : List (List Int)) (makes : List Int) (ask : Int) (tells : List Int) : List Int := timesAll g (mkAll g rows tells) makes (-ask)
theorem saysUp_len (g : Int) (rows : List (List Int)) (makes : List Int) (ask : Int) (tells : List Int) : (saysUp g rows makes ask tells).length = rows.length := by unfold saysUp; rw [timesAll_len, mkAll_len]
theorem saysUp_nth {g : Int} {rows : List (List Int)} {makes : List Int} {ask : Int} {tells : List Int} (hl : Lot g rows makes tells) (ha : exB g ask = true) {k : Nat} (hk : k < rows.length) :
    nth (saysUp g rows makes ask tells) k = gp g (bas g) (dotR g rows k tells + (-ask) * lg g (nth makes k)) := by
  have hm : elB g (nth makes k) = true := allEl_at hl.cl.makes (by rw [hl.cl.m]; exact hk)
  have hp := ex_pow ha
  rw [show nth (saysUp g rows makes ask tells) k = _ from timesTo_nth g _ makes (-ask) _ k (by rw [mkAll_len]; exact hk), hl.mk_nth hk, gpow_gp hm (by omega) (by omega), gp_lg hm, tim_gp hl.cl.g0 hl.cl.g4, Int.mul_comm (-ask)]
theorem saysUp_el {g : Int} {rows : List (List Int)} {makes : List Int} {ask : Int} {tells : List Int} (hl : Lot g rows makes tells) (ha : exB g ask = true) : allEl g (saysUp g rows makes ask tells) = true := allEl_yes fun k hk => by
  rw [saysUp_len] at hk
  rw [saysUp_nth hl ha hk]; exact gp_el (bas_el hl.cl.g0 hl.cl.g4) _
/-- Right talks are those that are made up. -/
theorem wok_made {g : Int} {rows : List (List Int)} {makes says : List Int} {ask : Int} {tells : List Int} (hl : Lot g rows makes tells) (ha : exB g ask = true) : wokB g rows makes says ask tells = sameB (saysUp g rows makes ask tells) says := by
  have g0 := hl.cl.g0
  have g4 := hl.cl.g4
  rw [Bool.eq_iff_iff, wok_true]
  unfold sameB
  rw [decide_eq_true_iff]
  constructor
  · intro h
    refine list_ext (by rw [saysUp_len, h.len]) fun k hk => ?_
    rw [saysUp_len] at hk
    have d := (wok_log hl h.len h.el ha).1 h.same k hk
    rw [saysUp_nth hl ha hk, el_lg (allEl_at h.el (show k < says.length by rw [h.len]; exact hk))]
    refine (gp_cg g0 g4).2 ?_
    obtain ⟨m, hm⟩ := d
    exact ⟨m, by rw [hm]; grind⟩
  · rintro rfl
    refine ⟨hl, saysUp_len _ _ _ _ _, saysUp_el hl ha, ha, (wok_log hl (saysUp_len _ _ _ _ _) (saysUp_el hl ha) ha).2 fun k hk => ?_⟩
    have e := el_lg (allEl_at (saysUp_el hl ha) (show k < (saysUp g rows makes ask tells).length by rw [saysUp_len]; exact hk))
    rw [saysUp_nth hl ha hk] at e
    obtain ⟨m, hm⟩ := (gp_cg g0 g4).1 e
    rw [← saysUp_nth hl ha hk] at hm
    exact ⟨m, by grind⟩

/-- The further exponents with which a talk that is made up is a true one. -/
def furthTo (g : Int) (tells es : List Int) (ask : Int) : Nat → List Int
  | 0 => []
  | k + 1 => furthTo g tells es ask k ++ [(nth tells k - ask * nth es k) % ord g]
theorem furthTo_succ (g : Int) (tells es : List Int) (ask : Int) (k : Nat) : furthTo g tells es ask (k + 1) = furthTo g tells es ask k ++ [(nth tells k - ask * nth es k) % ord g] := rfl
theorem furthTo_len (g : Int) (tells es : List Int) (ask : Int) : ∀ k, (furthTo g tells es ask k).length = k
  | 0 => rfl
  | k + 1 => by rw [furthTo_succ, List.length_append, furthTo_len g tells es ask k]; rfl
theorem furthTo_nth (g : Int) (tells es : List Int) (ask : Int) : ∀ n k, k < n → nth (furthTo g tells es ask n) k = (nth tells k - ask * nth es k) % ord g
  | 0, k, h => by omega
  | n + 1, k, h => by
    rw [furthTo_succ, nth_app, furthTo_len]
    by_cases e : k < n
    · rw [if_pos e]; exact furthTo_nth g tells es ask n k e
    · obtain rfl : k = n := by omega
      rw [if_neg e, if_pos rfl]
def furthAll (g : Int) (tells es : List Int) (ask : Int) : List Int := furthTo g tells es ask tells.length
theorem furth_lot {g : Int} {rows : List (List Int)} {makes tells es : List Int} (hl : Lot g rows makes tells) (ask : Int) : Lot g rows makes (furthAll g tells es ask) :=
  ⟨hl.cl, by unfold furthAll; rw [furthTo_len]; exact hl.len, allEx_yes fun j hj => by
    unfold furthAll at hj; rw [furthTo_len] at hj
    rw [show nth (furthAll g tells es ask) j = _ from furthTo_nth g tells es ask _ j hj]
    exact ex_of_mod hl.cl.g0 hl.cl.g4 _⟩
theorem made_true {g : Int} {rows : List (List Int)} {makes tells es : List Int} {ask : Int} (hl : Lot g rows makes tells) (ha : exB g ask = true) (he : Lot g rows makes es) (hs : mkAll g rows es = makes) :
    mkAll g rows (furthAll g tells es ask) = saysUp g rows makes ask tells ∧ tellsAll g es (furthAll g tells es ask) ask = tells := by
  have g0 := hl.cl.g0
  have g4 := hl.cl.g4
  have hf := furth_lot (es := es) hl ask
  have hfl : (furthAll g tells es ask).length = tells.length := furthTo_len _ _ _ _ _
  refine ⟨list_ext (by rw [mkAll_len, saysUp_len]) fun k hk => ?_, list_ext (by unfold tellsAll; rw [tellsTo_len, he.len, hl.len]) fun j hj => ?_⟩
  · rw [mkAll_len] at hk
    rw [hf.mk_nth hk, saysUp_nth hl ha hk]
    refine (gp_cg g0 g4).2 ?_
    have d1 := dotR_lin (g := g) (rows := rows) (k := k) (q := ord g) (c := -ask) (es := tells) (fs := es) (hs := furthAll g tells es ask) hfl.symm (by rw [hfl, he.len, hl.len]) (fun j hj => by
      rw [hfl] at hj
      rw [show nth (furthAll g tells es ask) j = _ from furthTo_nth g tells es ask _ j hj]
      refine (Cg.rem _ _).trans ⟨0, by grind⟩)
    exact d1.trans (Cg.add (Cg.refl _ _) ((he.solved.1 hs k hk).mul (-ask)))
  · unfold tellsAll at hj; rw [tellsTo_len, he.len] at hj
    rw [show nth (tellsAll g es (furthAll g tells es ask) ask) j = _ from tellsTo_nth g es _ ask _ j (by rw [he.len]; exact hj),
      show nth (furthAll g tells es ask) j = _ from furthTo_nth g tells es ask _ j (by rw [hl.len]; exact hj)]
    have hx := allEx_at hl.ex (show j < tells.length by rw [hl.len]; exact hj)
    have hm := ex_mod hx
    rw [← hm]
    refine cg_mod.2 ?_
    obtain ⟨m, hm'⟩ := Cg.rem (ord g) (nth tells j - ask * nth es j)
    rw [hm]
    exact ⟨m, by rw [hm']; grind⟩

/-- Two answers solve it. -/
def fromAll (g : Int) (t1 t2 : List Int) (a1 a2 : Int) : List Int := fromTo g t1 t2 a1 a2 t1.length
theorem from_solves {g : Int} {rows : List (List Int)} {makes says t1 t2 : List Int} {a1 a2 : Int} (h1 : Wok g rows makes says a1 t1) (h2 : Wok g rows makes says a2 t2) (hne : a1 ≠ a2) :
    Lot g rows makes (fromAll g t1 t2 a1 a2) ∧ mkAll g rows (fromAll g t1 t2 a1 a2) = makes := by
  have g0 := h1.lot.cl.g0
  have g4 := h1.lot.cl.g4
  have hlen : (fromAll g t1 t2 a1 a2).length = t1.length := fromTo_len _ _ _ _ _ _
  obtain ⟨_, a10, a11⟩ := exB_true.1 h1.ex
  obtain ⟨_, a20, a21⟩ := exB_true.1 h2.ex
  have hd : exB g ((a1 - a2) % ord g) = true := ex_of_mod g0 g4 _
  have hd0 : (a1 - a2) % ord g ≠ 0 := by
    intro h
    obtain ⟨k, hk⟩ := cg_mod.1 (show (a1 - a2) % ord g = 0 % ord g by rw [h]; simp)
    have : k = 0 := by
      rcases Int.lt_trichotomy k 0 with hk' | hk' | hk'
      · have : ord g * k ≤ ord g * (-1) := Int.mul_le_mul_of_nonneg_left (by omega) (by have := ord_bd g0 g4; omega)
        omega
      · exact hk'
      · have : ord g * 1 ≤ ord g * k := Int.mul_le_mul_of_nonneg_left (by omega) (by have := ord_bd g0 g4; omega)
        omega
    subst this
    simp at hk
    omega
  have hb := (back_prod hd).resolve_left (fun h => hd0 h.2)
  obtain ⟨b, hbb⟩ : ∃ b, gback g ((a1 - a2) % ord g) = b := ⟨_, rfl⟩
  rw [hbb] at hb
  have hb1 : Cg (ord g) ((a1 - a2) * b) 1 := by
    have ho := ord_bd g0 g4
    refine Cg.trans ?_ (cg_mod.1 (show (a1 - a2) % ord g * b % ord g = 1 % ord g by rw [hb.2.2, Int.emod_eq_of_lt (by omega) (by omega)]))
    exact cg_mod.1 (modmul _ _ _).symm
  have hn : ∀ j, j < t1.length → Cg (ord g) (nth (fromAll g t1 t2 a1 a2) j) (b * nth t1 j + (-b) * nth t2 j) := fun j hj => by
    rw [show nth (fromAll g t1 t2 a1 a2) j = _ from fromTo_nth g t1 t2 a1 a2 _ j hj]
    unfold secretOf
    rw [hbb]
    refine (Cg.rem _ _).trans ?_
    obtain ⟨m, hm⟩ := Cg.rem (ord g) (nth t1 j - nth t2 j)
    exact ⟨m * b, by rw [hm]; grind⟩
  have hl : Lot g rows makes (fromAll g t1 t2 a1 a2) := ⟨h1.lot.cl, by rw [hlen]; exact h1.lot.len, allEx_yes fun j hj => by
    rw [hlen] at hj
    rw [show nth (fromAll g t1 t2 a1 a2) j = _ from fromTo_nth g t1 t2 a1 a2 _ j hj]
    exact ex_of_mod g0 g4 _⟩
  refine ⟨hl, hl.solved.2 fun k hk => ?_⟩
  have d1 := (wok_log h1.lot h1.len h1.el h1.ex).1 h1.same k hk
  have d2 := (wok_log h2.lot h2.len h2.el h2.ex).1 h2.same k hk
  -- the sum of the quotients is the quotient of the sums
  have scale : ∀ {xs : List Int} {n : Nat}, n ≤ t1.length → Cg (ord g) (dotTo g xs (fromAll g t1 t2 a1 a2) n) (b * dotTo g xs t1 n + (-b) * dotTo g xs t2 n) := by
    intro xs n
    induction n with
    | zero => intro _; exact ⟨0, by simp [dotTo]⟩
    | succ n ih =>
      intro hh
      obtain ⟨m, hm⟩ := ih (by omega)
      obtain ⟨m', hm'⟩ := hn n (by omega)
      refine ⟨m + lg g (nth xs n) * m', ?_⟩
      rw [dotTo_succ, dotTo_succ, dotTo_succ, hm, hm']
      grind
  have d3 : Cg (ord g) (dotR g rows k (fromAll g t1 t2 a1 a2)) (b * dotR g rows k t1 + (-b) * dotR g rows k t2) := by
    unfold dotR
    rw [hlen, show t2.length = t1.length by rw [h1.lot.len, h2.lot.len]]
    exact scale (Nat.le_refl _)
  obtain ⟨m1, e1⟩ := d1
  obtain ⟨m2, e2⟩ := d2
  obtain ⟨m3, e3⟩ := hb1
  refine d3.trans ⟨b * m1 - b * m2 + lg g (nth makes k) * m3, ?_⟩
  rw [e1, e2]
  have e3' : a1 * b - a2 * b = 1 + ord g * m3 := by rw [← e3]; grind
  grind
end Go.Proofs.YtiinifcepcaonaaDoor

/- How many answers are right: one. -/
namespace Go.Proofs.YtiinifcepcaonaaDoor

/-- How many of the first k answers are right. -/
def cntT (g key say ask : Int) : Nat → Int
  | 0 => 0
  | k + 1 => if tokB g key say ask (k : Int) then cntT g key say ask k + 1 else cntT g key say ask k
def manyOf (g key say ask : Int) : Int := if elB g key && (elB g say && exB g ask) then 1 else -1
theorem many_yes {g key say ask : Int} (h1 : elB g key = true) (h2 : elB g say = true) (h3 : exB g ask = true) : manyOf g key say ask = 1 := by simp [manyOf, h1, h2, h3]
theorem many_no {g key say ask : Int} (h : ¬ (elB g key = true ∧ elB g say = true ∧ exB g ask = true)) : manyOf g key say ask = -1 := by
  unfold manyOf
  cases h1 : elB g key
  · rfl
  · cases h2 : elB g say
    · rfl
    · cases h3 : exB g ask
      · rfl
      · exact absurd ⟨h1, h2, h3⟩ h
theorem cntT_yes {g key say ask : Int} {k : Nat} (h : tokB g key say ask (k : Int) = true) : cntT g key say ask (k + 1) = cntT g key say ask k + 1 := by simp [cntT, h]
theorem cntT_no {g key say ask : Int} {k : Nat} (h : tokB g key say ask (k : Int) = false) : cntT g key say ask (k + 1) = cntT g key say ask k := by simp [cntT, h]
theorem cntT_bd (g key say ask : Int) (k : Nat) : 0 ≤ cntT g key say ask k ∧ cntT g key say ask k ≤ k := by
  induction k with
  | zero => exact ⟨Int.le_refl _, Int.le_refl _⟩
  | succ k ih =>
    obtain ⟨i1, i2⟩ := ih
    cases h : tokB g key say ask (k : Int)
    · rw [cntT_no h]; omega
    · rw [cntT_yes h]; omega
theorem cntT_at {g key say ask : Int} (h1 : elB g key = true) (h2 : elB g say = true) (h3 : exB g ask = true) (k : Nat) (hk : (k : Int) ≤ ord g) :
    cntT g key say ask k = if tellOf g (glog g (bas g) key) (glog g (bas g) say) ask < k then 1 else 0 := by
  obtain ⟨h0, h4⟩ := elB_group h1
  obtain ⟨_, t0, t1⟩ := exB_true.1 (tell_ex h0 h4 (glog g (bas g) key) (glog g (bas g) say) ask)
  induction k with
  | zero => rw [if_neg (by omega)]; rfl
  | succ k ih =>
    have ih := ih (by omega)
    have hx : exB g (k : Int) = true := exB_true.2 ⟨⟨h0, h4⟩, by omega, by omega⟩
    have ht := tok_tell h1 h2 h3 hx
    cases h : tokB g key say ask (k : Int)
    · have hne : (k : Int) ≠ tellOf g (glog g (bas g) key) (glog g (bas g) say) ask := fun e => by rw [ht.2 e] at h; cases h
      rw [cntT_no h, ih]
      by_cases hl : tellOf g (glog g (bas g) key) (glog g (bas g) say) ask < k
      · rw [if_pos hl, if_pos (by omega)]
      · rw [if_neg hl, if_neg (by omega)]
    · have he := ht.1 h
      rw [cntT_yes h, ih, if_neg (by omega), if_pos (by omega)]; rfl
theorem cntT_all {g key say ask : Int} (h1 : elB g key = true) (h2 : elB g say = true) (h3 : exB g ask = true) {q : Nat} (hq : ord g = q) : cntT g key say ask q = 1 := by
  obtain ⟨h0, h4⟩ := elB_group h1
  obtain ⟨_, t0, t1⟩ := exB_true.1 (tell_ex h0 h4 (glog g (bas g) key) (glog g (bas g) say) ask)
  rw [cntT_at h1 h2 h3 q (by omega), if_pos (by omega)]
end Go.Proofs.YtiinifcepcaonaaDoor
