/- Plain mathematics of the promises of chapter 1. -/
import Derived.Test.YtopjlbihhbjhnaaDoorPure
namespace Go.Proofs.YtopjlbihhbjhnaaDoor

/-! ### primes -/
theorem prm_prime_all : ∀ g ∈ [(0 : Int), 1, 2, 3], ∀ d ∈ (List.range 47).map (fun k : Nat => (k : Int)), 2 ≤ d → d < prm g → prm g % d ≠ 0 := by decide +kernel
theorem prm_prime {g : Int} (h0 : 0 ≤ g) (h4 : g < 4) {k : Nat} (h2 : 2 ≤ k) (hk : (k : Int) < prm g) : prm g % (k : Int) ≠ 0 :=
  prm_prime_all g (g_mem h0 h4) k (List.mem_map.2 ⟨k, List.mem_range.2 (by have := prm_bd h0 h4; omega), rfl⟩) (by omega) hk
theorem ord_prime_all : ∀ g ∈ [(0 : Int), 1, 2, 3], ∀ d ∈ (List.range 47).map (fun k : Nat => (k : Int)), 2 ≤ d → d < ord g → ord g % d ≠ 0 := by decide +kernel
theorem ord_prime {g : Int} (h0 : 0 ≤ g) (h4 : g < 4) {k : Nat} (h2 : 2 ≤ k) (hk : (k : Int) < ord g) : ord g % (k : Int) ≠ 0 :=
  ord_prime_all g (g_mem h0 h4) k (List.mem_map.2 ⟨k, List.mem_range.2 (by have := ord_bd h0 h4; omega), rfl⟩) (by omega) hk
theorem prm_ord {g : Int} (h0 : 0 ≤ g) (h4 : g < 4) : (prm g - 1) % ord g = 0 := by rcases g_cases h0 h4 with rfl | rfl | rfl | rfl <;> decide
theorem bas_el {g : Int} (h0 : 0 ≤ g) (h4 : g < 4) : elB g (bas g) = true := by rcases g_cases h0 h4 with rfl | rfl | rfl | rfl <;> decide

/-! ### exponents -/
theorem exB_zero (g : Int) : exB g 0 = decide (0 < ord g) := by
  by_cases hg : 0 ≤ g ∧ g < 4
  · have := ord_bd hg.1 hg.2
    rw [exB_true.2 ⟨hg, by omega, by omega⟩]; symm; simp; omega
  · rw [exB_none hg, ord_none hg]; rfl
theorem exB_ord (g : Int) : exB g (ord g) = false := exB_false.2 fun h => by omega

/-! ### products -/
theorem tim_el_all : ∀ g ∈ [(0 : Int), 1, 2, 3], ∀ a ∈ els g, ∀ b ∈ els g, elB g (a * b % prm g) = true := by decide +kernel
theorem tim_el {g a b : Int} (ha : elB g a = true) (hb : elB g b = true) : elB g (tim g a b) = true := by
  obtain ⟨h0, h4⟩ := elB_group ha
  rw [tim_yes ha hb]
  exact tim_el_all g (g_mem h0 h4) a (elB_mem.1 ha) b (elB_mem.1 hb)
theorem tim_comm (g a b : Int) : tim g a b = tim g b a := by unfold tim; rw [Bool.and_comm, Int.mul_comm]
theorem tim_assoc {g a b c : Int} (ha : elB g a = true) (hb : elB g b = true) (hc : elB g c = true) : tim g (tim g a b) c = tim g a (tim g b c) := by
  rw [tim_yes (tim_el ha hb) hc, tim_yes ha (tim_el hb hc), tim_yes ha hb, tim_yes hb hc]
  rw [Int.mul_emod (a * b % prm g) c, Int.emod_emod_of_dvd _ (Int.dvd_refl _), ← Int.mul_emod, Int.mul_emod a (b * c % prm g), Int.emod_emod_of_dvd _ (Int.dvd_refl _), ← Int.mul_emod, Int.mul_assoc]
theorem tim_pos {g a b : Int} (h : 0 ≤ tim g a b) : elB g a = true ∧ elB g b = true := by
  cases ha : elB g a
  · rw [tim_no1 ha] at h; omega
  · cases hb : elB g b
    · rw [tim_no2 hb] at h; omega
    · exact ⟨rfl, rfl⟩
theorem tim_neg {g a b : Int} (h : tim g a b < 0) : tim g a b = -1 := by
  cases ha : elB g a
  · exact tim_no1 ha
  · cases hb : elB g b
    · exact tim_no2 hb
    · have := elB_bound (tim_el ha hb); omega

/-! ### powers -/
theorem pw_mul_mod (p a : Int) (hp : 1 < p) (i : Nat) : pw p a i % p = pw p a i := by
  obtain ⟨h0, h1⟩ := pw_bound p a hp i
  exact Int.emod_eq_of_lt h0 h1
theorem pw_add (p a : Int) (hp : 1 < p) (i : Nat) : ∀ j, pw p a (i + j) = pw p a i * pw p a j % p
  | 0 => by simp only [Nat.add_zero, pw, Int.mul_one]; exact (pw_mul_mod p a hp i).symm
  | j + 1 => by
    rw [show i + (j + 1) = (i + j) + 1 from rfl, pw_succ, pw_succ, pw_add p a hp i j]
    rw [Int.mul_emod (pw p a i * pw p a j % p) a, Int.emod_emod_of_dvd _ (Int.dvd_refl _), ← Int.mul_emod, Int.mul_emod (pw p a i) (pw p a j * a % p), Int.emod_emod_of_dvd _ (Int.dvd_refl _), ← Int.mul_emod, Int.mul_assoc]
theorem pw_pw (p a : Int) (hp : 1 < p) (i : Nat) : ∀ j, pw p (pw p a i) j = pw p a (i * j)
  | 0 => rfl
  | j + 1 => by rw [pw_succ, pw_pw p a hp i j, Nat.mul_succ, pw_add p a hp]
theorem pw_times (p a : Int) (hp : 1 < p) (q : Nat) (h : pw p a q = 1) : ∀ t, pw p a (q * t) = 1
  | 0 => rfl
  | t + 1 => by rw [Nat.mul_succ, pw_add p a hp, pw_times p a hp q h t, h, Int.one_mul, Int.emod_eq_of_lt (by omega) hp]
theorem pw_mod (p a : Int) (hp : 1 < p) (q : Nat) (h : pw p a q = 1) (i : Nat) : pw p a (i % q) = pw p a i := by
  have e : i = q * (i / q) + i % q := (Nat.div_add_mod i q).symm
  conv => rhs; rw [e]
  rw [pw_add p a hp, pw_times p a hp q h, Int.one_mul, pw_mul_mod p a hp]
theorem el_order {g a : Int} (ha : elB g a = true) : pw (prm g) a (ord g).toNat = 1 := by
  obtain ⟨h0, h4⟩ := elB_group ha
  obtain ⟨h1, h2, _⟩ := elB_bound ha
  have := elB_pow h0 h4 h1 h2
  rw [ha] at this
  simpa using this.symm
/-- The power with any whole number. -/
def gp (g a n : Int) : Int := pw (prm g) a (n % ord g).toNat
theorem toNat_mod {n q : Int} (hq : 0 < q) : ((n % q).toNat : Int) = n % q := Int.toNat_of_nonneg (Int.emod_nonneg n (by omega))
theorem gp_nat {g a : Int} (ha : elB g a = true) (k : Nat) : gp g a k = pw (prm g) a k := by
  obtain ⟨h0, h4⟩ := elB_group ha
  have o := ord_bd h0 h4
  have p := prm_bd h0 h4
  have h := pw_mod (prm g) a (by omega) (ord g).toNat (el_order ha) k
  unfold gp
  rw [← h]
  obtain ⟨q, hq⟩ : ∃ q : Nat, ord g = q := ⟨(ord g).toNat, by omega⟩
  rw [hq, ← Int.natCast_emod, Int.toNat_natCast, Int.toNat_natCast]
theorem gp_congr {g a m n : Int} (h : m % ord g = n % ord g) : gp g a m = gp g a n := by unfold gp; rw [h]
theorem gp_add {g a : Int} (ha : elB g a = true) (m n : Int) : gp g a (m + n) = gp g a m * gp g a n % prm g := by
  obtain ⟨h0, h4⟩ := elB_group ha
  have o := ord_bd h0 h4
  have p := prm_bd h0 h4
  have e : gp g a (m + n) = gp g a (((m % ord g).toNat + (n % ord g).toNat : Nat) : Int) := gp_congr (by rw [Int.natCast_add, toNat_mod (by omega), toNat_mod (by omega), ← Int.add_emod])
  rw [e, gp_nat ha, pw_add _ _ (by omega)]; rfl
theorem gp_el {g a : Int} (ha : elB g a = true) (n : Int) : elB g (gp g a n) = true := by
  obtain ⟨h0, h4⟩ := elB_group ha
  have p := prm_bd h0 h4
  have h1 : ∀ k, elB g (pw (prm g) a k) = true := fun k => by
    induction k with
    | zero => show elB g 1 = true; rcases g_cases h0 h4 with rfl | rfl | rfl | rfl <;> decide
    | succ k ih => rw [pw_succ]; exact tim_el_all g (g_mem h0 h4) _ (elB_mem.1 ih) a (elB_mem.1 ha)
  exact h1 _
theorem gp_gp {g a : Int} (ha : elB g a = true) (m n : Int) : gp g (gp g a m) n = gp g a (m * n) := by
  obtain ⟨h0, h4⟩ := elB_group ha
  have o := ord_bd h0 h4
  have p := prm_bd h0 h4
  have e : gp g a (m * n) = gp g a (((m % ord g).toNat * (n % ord g).toNat : Nat) : Int) := gp_congr (by rw [Int.natCast_mul, toNat_mod (by omega), toNat_mod (by omega), ← Int.mul_emod])
  rw [e, gp_nat ha, ← pw_pw _ _ (by omega)]; rfl
theorem gp_one {g a : Int} (ha : elB g a = true) : gp g a 1 = a := by
  have := gp_nat ha 1
  obtain ⟨h1, h2, _⟩ := elB_bound ha
  rw [show ((1 : Nat) : Int) = 1 from rfl] at this
  rw [this]; simp only [pw, Int.one_mul]; exact Int.emod_eq_of_lt (by omega) h2
theorem gpow_gp {g a n : Int} (ha : elB g a = true) (h1 : -9999 ≤ n) (h2 : n ≤ 9999) : gpow g a n = gp g a n := gpow_yes ha h1 h2
theorem gpow_pos {g a n : Int} (h : 0 ≤ gpow g a n) : elB g a = true ∧ -9999 ≤ n ∧ n ≤ 9999 := by
  cases ha : elB g a
  · rw [gpow_no1 ha] at h; omega
  · by_cases hn : -9999 ≤ n ∧ n ≤ 9999
    · exact ⟨rfl, hn⟩
    · rw [gpow_no2 hn] at h; omega
theorem gpow_neg {g a n : Int} (h : gpow g a n < 0) : gpow g a n = -1 := by
  cases ha : elB g a
  · exact gpow_no1 ha
  · by_cases hn : -9999 ≤ n ∧ n ≤ 9999
    · have := gp_el ha n
      rw [← gpow_gp ha hn.1 hn.2] at this
      have := elB_bound this; omega
    · exact gpow_no2 hn
theorem gpow_el {g a n : Int} (h : 0 ≤ gpow g a n) : elB g (gpow g a n) = true := by
  obtain ⟨ha, h1, h2⟩ := gpow_pos h
  rw [gpow_gp ha h1 h2]; exact gp_el ha n
theorem gpow_sum {g a : Int} (ha : elB g a = true) {m n : Int} (h1 : -5000 ≤ m) (h2 : m ≤ 4999) (h3 : -4999 ≤ n) (h4 : n ≤ 5000) : gpow g a (m + n) = tim g (gpow g a m) (gpow g a n) := by
  rw [gpow_gp ha (by omega) (by omega), gpow_gp ha (by omega) (by omega), gpow_gp ha (by omega) (by omega), tim_yes (gp_el ha _) (gp_el ha _), gp_add ha]
theorem mul_bd {m n : Int} (h1 : -99 ≤ m) (h2 : m ≤ 99) (h3 : -100 ≤ n) (h4 : n ≤ 100) : -9999 ≤ m * n ∧ m * n ≤ 9999 := by
  constructor
  · by_cases c1 : 0 ≤ m <;> by_cases c2 : 0 ≤ n
    · have := Int.mul_nonneg c1 c2; omega
    · have k := Int.mul_le_mul (show m ≤ 99 by omega) (show -n ≤ 100 by omega) (by omega) (by omega)
      rw [Int.mul_neg] at k; omega
    · have k := Int.mul_le_mul (show -m ≤ 99 by omega) (show n ≤ 100 by omega) (by omega) (by omega)
      rw [Int.neg_mul] at k; omega
    · have k := Int.mul_nonneg (show 0 ≤ -m by omega) (show 0 ≤ -n by omega)
      rw [Int.neg_mul_neg] at k; omega
  · by_cases c1 : 0 ≤ m <;> by_cases c2 : 0 ≤ n
    · have := Int.mul_le_mul (show m ≤ 99 by omega) (show n ≤ 101 by omega) (by omega) (by omega); omega
    · have k := Int.mul_nonneg c1 (show 0 ≤ -n by omega)
      rw [Int.mul_neg] at k; omega
    · have k := Int.mul_nonneg (show 0 ≤ -m by omega) c2
      rw [Int.neg_mul] at k; omega
    · have k := Int.mul_le_mul (show -m ≤ 99 by omega) (show -n ≤ 101 by omega) (by omega) (by omega)
      rw [Int.neg_mul_neg] at k; omega
theorem gpow_mul {g a : Int} (ha : elB g a = true) {m n : Int} (h1 : -99 ≤ m) (h2 : m ≤ 99) (h3 : -100 ≤ n) (h4 : n ≤ 100) : gpow g (gpow g a m) n = gpow g a (m * n) := by
  have b1 := mul_bd h1 h2 h3 h4
  rw [gpow_gp ha (by omega) (by omega), gpow_gp (gp_el ha _) (by omega) (by omega), gpow_gp ha b1.1 b1.2, gp_gp ha]
theorem gpow_more {g a : Int} (ha : elB g a = true) {n : Int} (h1 : -9000 ≤ n) (h2 : n ≤ 9000) : gpow g a (n + ord g) = gpow g a n := by
  obtain ⟨h0, h4⟩ := elB_group ha
  have o := ord_bd h0 h4
  rw [gpow_gp ha (by omega) (by omega), gpow_gp ha (by omega) (by omega)]
  exact gp_congr (Int.add_emod_right _ _)

/-! ### logarithms, roots -/
theorem log_pow_all : ∀ g ∈ [(0 : Int), 1, 2, 3], ∀ b ∈ els g, b ≠ 1 → ∀ k ∈ List.range 23, (k : Int) < ord g → glog g b (pw (prm g) b k) = k := by decide +kernel
theorem glog_pow {g b : Int} (hb : elB g b = true) (h1 : b ≠ 1) {k : Nat} (hk : (k : Int) < ord g) : glog g b (pw (prm g) b k) = k := by
  obtain ⟨h0, h4⟩ := elB_group hb
  have o := ord_bd h0 h4
  exact log_pow_all g (g_mem h0 h4) b (elB_mem.1 hb) h1 k (List.mem_range.2 (by omega)) hk
theorem glog_gp {g b : Int} (hb : elB g b = true) (h1 : b ≠ 1) (n : Int) : glog g b (gp g b n) = n % ord g := by
  obtain ⟨h0, h4⟩ := elB_group hb
  have o := ord_bd h0 h4
  have := Int.emod_lt_of_pos n (show 0 < ord g by omega)
  unfold gp
  rw [glog_pow hb h1 (by rw [toNat_mod (by omega)]; exact this), toNat_mod (by omega)]
theorem gp_glog {g b a : Int} (hb : elB g b = true) (ha : elB g a = true) (h1 : b ≠ 1) : gp g b (glog g b a) = a := by
  obtain ⟨h2, h3, h4⟩ := glog_spec hb ha h1
  unfold gp
  rw [Int.emod_eq_of_lt h2 h3]; exact h4
theorem glog_tim {g b a c : Int} (hb : elB g b = true) (h1 : b ≠ 1) (ha : elB g a = true) (hc : elB g c = true) : glog g b (tim g a c) = (glog g b a + glog g b c) % ord g := by
  rw [tim_yes ha hc]
  conv => lhs; rw [← gp_glog hb ha h1, ← gp_glog hb hc h1]
  rw [← gp_add hb, glog_gp hb h1]
theorem glog_pos {g b a : Int} (h : 0 ≤ glog g b a) : elB g b = true ∧ elB g a = true ∧ b ≠ 1 := by
  cases hb : elB g b
  · rw [glog_no1 hb] at h; omega
  · cases ha : elB g a
    · rw [glog_no2 ha] at h; omega
    · refine ⟨rfl, rfl, fun e => ?_⟩
      subst e; rw [glog_no3] at h; omega
theorem glog_neg {g b a : Int} (h : glog g b a < 0) : glog g b a = -1 := by
  cases hb : elB g b
  · exact glog_no1 hb
  · cases ha : elB g a
    · exact glog_no2 ha
    · by_cases h1 : b = 1
      · subst h1; exact glog_no3
      · have := (glog_spec hb ha h1).1; omega
theorem gpow_glog {g b a : Int} (h : 0 ≤ glog g b a) : gpow g b (glog g b a) = a := by
  obtain ⟨hb, ha, h1⟩ := glog_pos h
  obtain ⟨h0, h4⟩ := elB_group hb
  have o := ord_bd h0 h4
  have s := glog_spec hb ha h1
  rw [gpow_gp hb (by omega) (by omega), gp_glog hb ha h1]
theorem exB_glog {g b a : Int} (h : 0 ≤ glog g b a) : exB g (glog g b a) = true := by
  obtain ⟨hb, ha, h1⟩ := glog_pos h
  exact exB_true.2 ⟨elB_group hb, h, (glog_spec hb ha h1).2.1⟩
theorem back_prod_all : ∀ g ∈ [(0 : Int), 1, 2, 3], ∀ n ∈ (List.range 23).map (fun k : Nat => (k : Int)), n < ord g → (gback g n = -1 ∧ n = 0) ∨ (0 ≤ gback g n ∧ gback g n < ord g ∧ n * gback g n % ord g = 1) := by decide +kernel
theorem back_prod {g n : Int} (hx : exB g n = true) : (gback g n = -1 ∧ n = 0) ∨ (0 ≤ gback g n ∧ gback g n < ord g ∧ n * gback g n % ord g = 1) := by
  obtain ⟨⟨h0, h4⟩, n0, n1⟩ := exB_true.1 hx
  have o := ord_bd h0 h4
  exact back_prod_all g (g_mem h0 h4) n (List.mem_map.2 ⟨n.toNat, List.mem_range.2 (by omega), by omega⟩) n1
theorem gback_pos {g n : Int} (h : 0 ≤ gback g n) : exB g n = true ∧ gback g n < ord g ∧ n * gback g n % ord g = 1 := by
  cases hx : exB g n
  · rw [gback_no hx] at h; omega
  · rcases back_prod hx with ⟨e, _⟩ | ⟨_, h2, h3⟩
    · omega
    · exact ⟨rfl, h2, h3⟩
theorem gback_neg {g n : Int} (h : gback g n < 0) : gback g n = -1 := by
  cases hx : exB g n
  · exact gback_no hx
  · rcases back_prod hx with ⟨e, _⟩ | ⟨h1, h2, h3⟩
    · exact e
    · omega
theorem root_back {g n a : Int} (h : 0 ≤ gback g n) (ha : elB g a = true) : gpow g (gpow g a n) (gback g n) = a := by
  obtain ⟨hx, h2, h3⟩ := gback_pos h
  obtain ⟨⟨h0, h4⟩, n0, n1⟩ := exB_true.1 hx
  have o := ord_bd h0 h4
  rw [gpow_gp ha (by omega) (by omega), gpow_gp (gp_el ha _) (by omega) (by omega), gp_gp ha]
  rw [gp_congr (n := 1) (by rw [h3, Int.emod_eq_of_lt (by omega) (by omega)]), gp_one ha]

end Go.Proofs.YtopjlbihhbjhnaaDoor
