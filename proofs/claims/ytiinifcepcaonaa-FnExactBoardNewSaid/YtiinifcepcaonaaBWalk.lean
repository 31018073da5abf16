/- Pure, WalkA, WalkB, WalkC, WalkD, WalkE, WalkF, WalkFa, WalkFb, WalkG, WalkH, in one text. -/
import Derived.Test.YtiinifcepcaonaaRows
import Derived.WalkKit
import Derived.ProofKit
import Derived.BigQuiet
import Derived.Deep.QuietTactic
import Derived.LoopTactic
import Derived.Below
import Derived.WalkSmall
import Derived.Lib.Hide
/- Plain mathematics of the four groups: numbers, no program. -/
namespace Go.Proofs.Ytiinifcepcaonaa

def prm (g : Int) : Int := if g = 0 then 7 else if g = 1 then 11 else if g = 2 then 23 else if g = 3 then 47 else -1
def ord (g : Int) : Int := if g = 0 then 3 else if g = 1 then 5 else if g = 2 then 11 else if g = 3 then 23 else -1
def bas (g : Int) : Int := if g = 0 then 2 else if g = 1 then 3 else if g = 2 then 2 else if g = 3 then 2 else -1
def els (g : Int) : List Int := if g = 0 then [1, 2, 4] else if g = 1 then [1, 3, 4, 5, 9] else if g = 2 then [1, 2, 3, 4, 6, 8, 9, 12, 13, 16, 18] else if g = 3 then [1, 2, 3, 4, 6, 7, 8, 9, 12, 14, 16, 17, 18, 21, 24, 25, 27, 28, 32, 34, 36, 37, 42] else []
def gok (g : Int) : Bool := decide (0 ≤ g) && decide (g < 4)
def pw (p a : Int) : Nat → Int
  | 0 => 1
  | n + 1 => pw p a n * a % p
/-- Whether a is an element of group g. -/
def elB (g a : Int) : Bool := (els g).contains a
def exB (g n : Int) : Bool := gok g && decide (0 ≤ n) && decide (n < ord g)
def tim (g a b : Int) : Int := if elB g a && elB g b then a * b % prm g else -1
def powB (n : Int) : Bool := decide (-9999 ≤ n) && decide (n ≤ 9999)
def gpow (g a n : Int) : Int := if elB g a && powB n then pw (prm g) a (n % ord g).toNat else -1
/-- The first exponent below q with which b's power by p is a; -1 if there is none. -/
def logGo (p b a : Int) : Nat → Nat → Int
  | _, 0 => -1
  | k, n + 1 => if pw p b k = a then k else logGo p b a (k + 1) n
def glog (g b a : Int) : Int := if elB g b && elB g a && decide (b ≠ 1) then logGo (prm g) b a 0 (ord g).toNat else -1
def backGo (q n : Int) : Nat → Nat → Int
  | _, 0 => -1
  | k, m + 1 => if n * k % q = 1 then k else backGo q n (k + 1) m
def gback (g n : Int) : Int := if exB g n then backGo (ord g) n 0 (ord g).toNat else -1

theorem g_cases {g : Int} (h0 : 0 ≤ g) (h4 : g < 4) : g = 0 ∨ g = 1 ∨ g = 2 ∨ g = 3 := by omega
theorem gok_true {g : Int} : gok g = true ↔ 0 ≤ g ∧ g < 4 := by simp [gok]
theorem gok_false {g : Int} : gok g = false ↔ ¬ (0 ≤ g ∧ g < 4) := by rw [← gok_true]; simp
theorem els_none {g : Int} (h : ¬ (0 ≤ g ∧ g < 4)) : els g = [] := by unfold els; rw [if_neg (by omega), if_neg (by omega), if_neg (by omega), if_neg (by omega)]
theorem prm_none {g : Int} (h : ¬ (0 ≤ g ∧ g < 4)) : prm g = -1 := by unfold prm; rw [if_neg (by omega), if_neg (by omega), if_neg (by omega), if_neg (by omega)]
theorem ord_none {g : Int} (h : ¬ (0 ≤ g ∧ g < 4)) : ord g = -1 := by unfold ord; rw [if_neg (by omega), if_neg (by omega), if_neg (by omega), if_neg (by omega)]
theorem bas_none {g : Int} (h : ¬ (0 ≤ g ∧ g < 4)) : bas g = -1 := by unfold bas; rw [if_neg (by omega), if_neg (by omega), if_neg (by omega), if_neg (by omega)]
theorem elB_none {g : Int} (h : ¬ (0 ≤ g ∧ g < 4)) (a : Int) : elB g a = false := by unfold elB; rw [els_none h]; rfl
theorem elB_group {g a : Int} (h : elB g a = true) : 0 ≤ g ∧ g < 4 := by
  by_cases hg : 0 ≤ g ∧ g < 4
  · exact hg
  · rw [elB_none hg] at h; cases h
theorem elB_mem {g a : Int} : elB g a = true ↔ a ∈ els g := by unfold elB; simp

/-- A fact on all elements, checked one by one. -/
theorem els_all {g : Int} {P : Int → Prop} [DecidablePred P] (h : ((els g).all fun a => decide (P a)) = true) {a : Int} (ha : elB g a = true) : P a := by
  rw [elB_mem] at ha
  have := List.all_eq_true.1 h a ha
  simpa using this
theorem elB_bound {g a : Int} (h : elB g a = true) : 1 ≤ a ∧ a < prm g ∧ a < 47 := by
  obtain ⟨h0, h4⟩ := elB_group h
  rcases g_cases h0 h4 with rfl | rfl | rfl | rfl
  all_goals exact els_all (P := fun a => 1 ≤ a ∧ a < prm _ ∧ a < 47) (by decide) h

/-- Whether none of the first k powers of b by p is a. -/
def NoneB (p b a : Int) (k : Nat) : Prop := ∀ j, j < k → pw p b j ≠ a
theorem NoneB.zero (p b a : Int) : NoneB p b a 0 := fun _ h => by omega
theorem NoneB.succ {p b a : Int} {k : Nat} (h : NoneB p b a k) (hk : pw p b k ≠ a) : NoneB p b a (k + 1) := fun j hj => by
  by_cases e : j = k
  · rw [e]; exact hk
  · exact h j (by omega)
theorem pw_succ (p b : Int) (k : Nat) : pw p b (k + 1) = pw p b k * b % p := rfl
theorem pw_bound (p b : Int) (hp : 1 < p) : ∀ k, 0 ≤ pw p b k ∧ pw p b k < p
  | 0 => by simp [pw]; omega
  | k + 1 => by rw [pw_succ]; exact ⟨Int.emod_nonneg _ (by omega), Int.emod_lt_of_pos _ (by omega)⟩

theorem el_power_all : ∀ g ∈ [(0 : Int), 1, 2, 3], ∀ k < (ord g).toNat, elB g (pw (prm g) (bas g) k) = true := by decide
theorem el_log_all : ∀ g ∈ [(0 : Int), 1, 2, 3], ∀ a ∈ els g, ∃ k, k < (ord g).toNat ∧ pw (prm g) (bas g) k = a := by decide
theorem el_true {g a : Int} (hg : g ∈ [(0 : Int), 1, 2, 3]) {k : Nat} (hk : k < (ord g).toNat) (h : pw (prm g) (bas g) k = a) : elB g a = true := by
  rw [← h]; exact el_power_all g hg k hk
theorem el_false {g a : Int} (hg : g ∈ [(0 : Int), 1, 2, 3]) (h : NoneB (prm g) (bas g) a (ord g).toNat) : elB g a = false := by
  cases hb : elB g a
  · rfl
  · obtain ⟨k, hk, e⟩ := el_log_all g hg a (elB_mem.1 hb)
    exact absurd e (h k hk)

theorem tmod_bd (n q : Int) (hq : 0 < q) : -q < n.tmod q ∧ n.tmod q < q := by
  have h1 := Int.tmod_lt_of_pos n hq
  have h2 := Int.tmod_lt_of_pos (-n) hq
  rw [Int.neg_tmod] at h2
  omega
theorem rem_eq (n q : Int) : (n.tmod q + q) % q = n % q := by
  rw [Int.tmod_def, show n - q * n.tdiv q + q = n + q * (1 - n.tdiv q) by rw [Int.mul_sub]; omega, Int.add_mul_emod_self_left]
theorem exB_none {g : Int} (h : ¬ (0 ≤ g ∧ g < 4)) (n : Int) : exB g n = false := by unfold exB; rw [gok_false.2 h]; rfl
theorem exB_true {g n : Int} : exB g n = true ↔ (0 ≤ g ∧ g < 4) ∧ 0 ≤ n ∧ n < ord g := by simp [exB, gok_true, and_assoc]
theorem exB_false {g n : Int} : exB g n = false ↔ ¬ ((0 ≤ g ∧ g < 4) ∧ 0 ≤ n ∧ n < ord g) := by rw [← exB_true]; simp
theorem tim_yes {g a b : Int} (ha : elB g a = true) (hb : elB g b = true) : tim g a b = a * b % prm g := by simp [tim, ha, hb]
theorem tim_no1 {g a b : Int} (ha : elB g a = false) : tim g a b = -1 := by simp [tim, ha]
theorem tim_no2 {g a b : Int} (hb : elB g b = false) : tim g a b = -1 := by simp [tim, hb]
theorem powB_true {n : Int} : powB n = true ↔ -9999 ≤ n ∧ n ≤ 9999 := by simp [powB]
theorem powB_false {n : Int} : powB n = false ↔ ¬ (-9999 ≤ n ∧ n ≤ 9999) := by rw [← powB_true]; simp
theorem gpow_yes {g a n : Int} (ha : elB g a = true) (h1 : -9999 ≤ n) (h2 : n ≤ 9999) : gpow g a n = pw (prm g) a (n % ord g).toNat := by simp [gpow, ha, powB_true.2 ⟨h1, h2⟩]
theorem gpow_no1 {g a n : Int} (ha : elB g a = false) : gpow g a n = -1 := by simp [gpow, ha]
theorem gpow_no2 {g a n : Int} (h : ¬ (-9999 ≤ n ∧ n ≤ 9999)) : gpow g a n = -1 := by simp [gpow, powB_false.2 h]
theorem logGo_hit (p b a : Int) (k : Nat) (h : pw p b k = a) : ∀ n j, (∀ i, j ≤ i → i < k → pw p b i ≠ a) → j ≤ k → k < j + n → logGo p b a j n = k
  | 0, j, _, h1, h2 => by omega
  | n + 1, j, hn, h1, h2 => by
    unfold logGo
    by_cases e : j = k
    · rw [if_pos (by rw [e]; exact h), e]
    · rw [if_neg (hn j (Nat.le_refl _) (by omega))]
      exact logGo_hit p b a k h n (j + 1) (fun i hi hk => hn i (by omega) hk) (by omega) (by omega)
theorem logGo_miss (p b a : Int) : ∀ n j, (∀ i, j ≤ i → i < j + n → pw p b i ≠ a) → logGo p b a j n = -1
  | 0, j, _ => rfl
  | n + 1, j, hn => by
    unfold logGo
    rw [if_neg (hn j (Nat.le_refl _) (by omega))]
    exact logGo_miss p b a n (j + 1) (fun i hi hk => hn i (by omega) (by omega))
theorem backGo_hit (q n : Int) (k : Nat) (h : n * k % q = 1) : ∀ m j, (∀ i : Nat, j ≤ i → i < k → n * i % q ≠ 1) → j ≤ k → k < j + m → backGo q n j m = k
  | 0, j, _, h1, h2 => by omega
  | m + 1, j, hn, h1, h2 => by
    unfold backGo
    by_cases e : j = k
    · rw [if_pos (by rw [e]; exact h), e]
    · rw [if_neg (hn j (Nat.le_refl _) (by omega))]
      exact backGo_hit q n k h m (j + 1) (fun i hi hk => hn i (by omega) hk) (by omega) (by omega)
theorem backGo_miss (q n : Int) : ∀ m j, (∀ i : Nat, j ≤ i → i < j + m → n * i % q ≠ 1) → backGo q n j m = -1
  | 0, j, _ => rfl
  | m + 1, j, hn => by
    unfold backGo
    rw [if_neg (hn j (Nat.le_refl _) (by omega))]
    exact backGo_miss q n m (j + 1) (fun i hi hk => hn i (by omega) (by omega))
theorem glog_hit {g b a : Int} (hb : elB g b = true) (ha : elB g a = true) (h1 : b ≠ 1) {k : Nat} (hk : k < (ord g).toNat) (hn : NoneB (prm g) b a k) (h : pw (prm g) b k = a) : glog g b a = k := by
  unfold glog; rw [hb, ha]; simp only [Bool.and_self, Bool.true_and]
  rw [if_pos (by simpa using h1)]
  exact logGo_hit _ _ _ k h _ 0 (fun i _ hi => hn i hi) (by omega) (by omega)
theorem glog_miss {g b a : Int} (hn : NoneB (prm g) b a (ord g).toNat) : glog g b a = -1 := by
  unfold glog; split
  · exact logGo_miss _ _ _ _ 0 (fun i _ hi => hn i (by omega))
  · rfl
theorem glog_no1 {g b a : Int} (hb : elB g b = false) : glog g b a = -1 := by simp [glog, hb]
theorem glog_no2 {g b a : Int} (hb : elB g a = false) : glog g b a = -1 := by simp [glog, hb]
theorem glog_no3 {g a : Int} : glog g 1 a = -1 := by simp [glog]
def NoneR (q n : Int) (k : Nat) : Prop := ∀ j : Nat, j < k → n * j % q ≠ 1
theorem NoneR.zero (q n : Int) : NoneR q n 0 := fun _ h => by omega
theorem NoneR.succ {q n : Int} {k : Nat} (h : NoneR q n k) (hk : n * k % q ≠ 1) : NoneR q n (k + 1) := fun j hj => by
  by_cases e : j = k
  · rw [e]; exact hk
  · exact h j (by omega)
theorem gback_hit {g n : Int} (hx : exB g n = true) {k : Nat} (hk : k < (ord g).toNat) (hn : NoneR (ord g) n k) (h : n * k % ord g = 1) : gback g n = k := by
  unfold gback; rw [hx, if_pos rfl]
  exact backGo_hit _ _ k h _ 0 (fun i _ hi => hn i hi) (by omega) (by omega)
theorem gback_miss {g n : Int} (hn : NoneR (ord g) n (ord g).toNat) : gback g n = -1 := by
  unfold gback; split
  · exact backGo_miss _ _ _ 0 (fun i _ hi => hn i (by omega))
  · rfl
theorem gback_no {g n : Int} (hx : exB g n = false) : gback g n = -1 := by simp [gback, hx]

theorem elB_pow_all : ∀ g ∈ [(0 : Int), 1, 2, 3], ∀ a ∈ (List.range 47).map (fun k : Nat => (k : Int)), 1 ≤ a → a < prm g → elB g a = (pw (prm g) a (ord g).toNat == 1) := by decide +kernel
theorem elB_pow {g a : Int} (h0 : 0 ≤ g) (h4 : g < 4) (h1 : 1 ≤ a) (h2 : a < prm g) : elB g a = (pw (prm g) a (ord g).toNat == 1) := by
  have hp : prm g ≤ 47 := by rcases g_cases h0 h4 with rfl | rfl | rfl | rfl <;> decide
  refine elB_pow_all g (by rcases g_cases h0 h4 with rfl | rfl | rfl | rfl <;> decide) a ?_ h1 h2
  rw [List.mem_map]
  exact ⟨a.toNat, List.mem_range.2 (by omega), by omega⟩
theorem elB_out {g a : Int} (h : ¬ (1 ≤ a ∧ a < prm g)) : elB g a = false := by
  cases hb : elB g a
  · rfl
  · obtain ⟨h1, h2, _⟩ := elB_bound hb
    exact absurd ⟨h1, h2⟩ h
theorem log_all : ∀ g ∈ [(0 : Int), 1, 2, 3], ∀ b ∈ els g, b ≠ 1 → ∀ a ∈ els g, 0 ≤ glog g b a ∧ glog g b a < ord g ∧ pw (prm g) b (glog g b a).toNat = a := by decide +kernel
theorem g_mem {g : Int} (h0 : 0 ≤ g) (h4 : g < 4) : g ∈ [(0 : Int), 1, 2, 3] := by rcases g_cases h0 h4 with rfl | rfl | rfl | rfl <;> decide
theorem glog_spec {g b a : Int} (hb : elB g b = true) (ha : elB g a = true) (h1 : b ≠ 1) : 0 ≤ glog g b a ∧ glog g b a < ord g ∧ pw (prm g) b (glog g b a).toNat = a := by
  obtain ⟨h0, h4⟩ := elB_group hb
  exact log_all g (g_mem h0 h4) b (elB_mem.1 hb) h1 a (elB_mem.1 ha)
theorem glog_first {g b a : Int} (hb : elB g b = true) (ha : elB g a = true) (h1 : b ≠ 1) {k : Nat} (hn : NoneB (prm g) b a k) : (k : Int) ≤ glog g b a := by
  obtain ⟨h2, h3, h4⟩ := glog_spec hb ha h1
  by_cases h : (glog g b a).toNat < k
  · exact absurd h4 (hn _ h)
  · omega
theorem back_all : ∀ g ∈ [(0 : Int), 1, 2, 3], ∀ n ∈ (List.range 23).map (fun k : Nat => (k : Int)), 0 < n → n < ord g → gback g n = pw (ord g) n (ord g - 2).toNat := by decide +kernel
theorem back_zero (g : Int) : gback g 0 = -1 := by
  cases hx : exB g 0
  · exact gback_no hx
  · obtain ⟨⟨h0, h4⟩, _⟩ := exB_true.1 hx
    rcases g_cases h0 h4 with rfl | rfl | rfl | rfl <;> decide
theorem gback_pow {g n : Int} (hx : exB g n = true) (hn : n ≠ 0) : gback g n = pw (ord g) n (ord g - 2).toNat := by
  obtain ⟨⟨h0, h4⟩, n0, n1⟩ := exB_true.1 hx
  have hq : ord g ≤ 23 := by rcases g_cases h0 h4 with rfl | rfl | rfl | rfl <;> decide
  refine back_all g (g_mem h0 h4) n ?_ (by omega) n1
  rw [List.mem_map]
  exact ⟨n.toNat, List.mem_range.2 (by omega), by omega⟩
theorem prm_bd {g : Int} (h0 : 0 ≤ g) (h4 : g < 4) : 7 ≤ prm g ∧ prm g ≤ 47 := by rcases g_cases h0 h4 with rfl | rfl | rfl | rfl <;> decide
theorem ord_bd {g : Int} (h0 : 0 ≤ g) (h4 : g < 4) : 3 ≤ ord g ∧ ord g ≤ 23 := by rcases g_cases h0 h4 with rfl | rfl | rfl | rfl <;> decide
theorem bas_bd {g : Int} (h0 : 0 ≤ g) (h4 : g < 4) : 2 ≤ bas g ∧ bas g ≤ 3 := by rcases g_cases h0 h4 with rfl | rfl | rfl | rfl <;> decide

/-- The elements less than a. -/
def elsTo (g a : Int) : List Int := (els g).filter fun x => decide (x < a)
theorem elsTo_all : ∀ g ∈ [(0 : Int), 1, 2, 3], ∀ a ∈ (List.range 47).map (fun k : Nat => (k : Int)), elsTo g (a + 1) = elsTo g a ++ if elB g a then [a] else [] := by decide +kernel
theorem elsTo_step {g : Int} (h0 : 0 ≤ g) (h4 : g < 4) {k : Nat} (hk : k < 47) : elsTo g ((k : Int) + 1) = elsTo g k ++ if elB g k then [(k : Int)] else [] :=
  elsTo_all g (g_mem h0 h4) k (List.mem_map.2 ⟨k, List.mem_range.2 hk, rfl⟩)
theorem elsTo_yes {g : Int} (h0 : 0 ≤ g) (h4 : g < 4) {k : Nat} (hk : k < 47) (he : elB g k = true) : elsTo g ((k + 1 : Nat) : Int) = elsTo g k ++ [(k : Int)] := by
  have := elsTo_step h0 h4 hk
  rw [he] at this; simpa using this
theorem elsTo_no {g : Int} (h0 : 0 ≤ g) (h4 : g < 4) {k : Nat} (hk : k < 47) (he : elB g k = false) : elsTo g ((k + 1 : Nat) : Int) = elsTo g k := by
  have := elsTo_step h0 h4 hk
  rw [he] at this; simpa using this
theorem elsTo_prm {g : Int} (h0 : 0 ≤ g) (h4 : g < 4) : elsTo g (prm g) = els g := by rcases g_cases h0 h4 with rfl | rfl | rfl | rfl <;> decide
theorem elsTo_one {g : Int} (h0 : 0 ≤ g) (h4 : g < 4) : elsTo g 1 = [] := by rcases g_cases h0 h4 with rfl | rfl | rfl | rfl <;> decide
theorem els_len {g : Int} : (els g).length ≤ 23 := by
  by_cases hg : 0 ≤ g ∧ g < 4
  · rcases g_cases hg.1 hg.2 with rfl | rfl | rfl | rfl <;> decide
  · rw [els_none hg]; decide
theorem elsTo_len (g a : Int) : (elsTo g a).length ≤ 23 := Nat.le_trans (List.length_filter_le _ _) els_len
theorem els_ord {g : Int} (h0 : 0 ≤ g) (h4 : g < 4) : ((els g).length : Int) = ord g := by rcases g_cases h0 h4 with rfl | rfl | rfl | rfl <;> decide

/-- The number at place j. -/
def nth (xs : List Int) (j : Nat) : Int := xs.getD j 0
def hasB (xs : List Int) (n : Int) : Bool := xs.contains n
def sameB (xs ys : List Int) : Bool := decide (xs = ys)
def NotIn (xs : List Int) (n : Int) (k : Nat) : Prop := ∀ j, j < k → nth xs j ≠ n
def SameTo (xs ys : List Int) (k : Nat) : Prop := ∀ j, j < k → nth xs j = nth ys j
theorem NotIn.zero (xs : List Int) (n : Int) : NotIn xs n 0 := fun _ h => by omega
theorem NotIn.succ {xs : List Int} {n : Int} {k : Nat} (h : NotIn xs n k) (hk : nth xs k ≠ n) : NotIn xs n (k + 1) := fun j hj => by
  by_cases e : j = k
  · rw [e]; exact hk
  · exact h j (by omega)
theorem SameTo.zero (xs ys : List Int) : SameTo xs ys 0 := fun _ h => by omega
theorem SameTo.succ {xs ys : List Int} {k : Nat} (h : SameTo xs ys k) (hk : nth xs k = nth ys k) : SameTo xs ys (k + 1) := fun j hj => by
  by_cases e : j = k
  · rw [e]; exact hk
  · exact h j (by omega)
theorem nth_get {xs : List Int} {j : Nat} (h : j < xs.length) : nth xs j = xs[j] := by
  unfold nth; rw [List.getD_eq_getElem?_getD, List.getElem?_eq_getElem h]; rfl
theorem nth_mem {xs : List Int} {j : Nat} (h : j < xs.length) : nth xs j ∈ xs := by rw [nth_get h]; exact List.getElem_mem _
theorem has_yes {xs : List Int} {n : Int} {k : Nat} (h : k < xs.length) (he : nth xs k = n) : hasB xs n = true := by
  unfold hasB; rw [List.contains_iff_mem, ← he]; exact nth_mem h
theorem has_no {xs : List Int} {n : Int} (h : NotIn xs n xs.length) : hasB xs n = false := by
  cases hb : hasB xs n
  · rfl
  · unfold hasB at hb
    rw [List.contains_iff_mem] at hb
    obtain ⟨j, hj, e⟩ := List.getElem_of_mem hb
    exact absurd (by rw [nth_get hj]; exact e) (h j hj)
theorem same_len {xs ys : List Int} (h : xs.length ≠ ys.length) : sameB xs ys = false := by
  unfold sameB; rw [decide_eq_false_iff_not]; intro e; rw [e] at h; exact h rfl
theorem same_no {xs ys : List Int} {k : Nat} (he : nth xs k ≠ nth ys k) : sameB xs ys = false := by
  unfold sameB; rw [decide_eq_false_iff_not]; intro e; rw [e] at he; exact he rfl
theorem same_yes {xs ys : List Int} (hl : xs.length = ys.length) (h : SameTo xs ys xs.length) : sameB xs ys = true := by
  unfold sameB; rw [decide_eq_true_iff]
  refine List.ext_getElem hl fun j h1 h2 => ?_
  rw [← nth_get h1, ← nth_get h2]; exact h j h1
theorem sameB_refl (xs : List Int) : sameB xs xs = true := by simp [sameB]
theorem hasB_els (g a : Int) : hasB (els g) a = elB g a := rfl

end Go.Proofs.Ytiinifcepcaonaa

/- Contracts of the small functions: impl.groupOk, spec.l1In, impl.remainder, impl.GroupPrime/Order/Base, spec.GroupPrime/Order/Base, spec.l1Mod. -/
namespace Go.Proofs.Ytiinifcepcaonaa
open Go.RowKit

theorem groupOk_any (g : Int) (w : World) : Calls Try.prog 10 #[.int .i64 g] w fun e w' => e = .returned (.bool (gok g)) ∧ w = w' := by
  go_enter Try.func10, Try.ntmps10
  go_wp2
  all_goals (go_ret; refine ⟨?_, rfl⟩; first | (simp [gok, *]; done) | (simp [gok, *]; omega))

theorem l1In_any (n a b : Int) (w : World) : Calls Try.prog 9 #[.int .i64 n, .int .i64 a, .int .i64 b] w fun e w' => e = .returned (.bool (decide (a ≤ n) && decide (n ≤ b))) ∧ w = w' := by
  go_enter Try.func9, Try.ntmps9
  go_wp2
  all_goals (go_ret; refine ⟨?_, rfl⟩; first | (simp [*]; done) | (simp [*]; omega))

end Go.Proofs.Ytiinifcepcaonaa

/- Contracts of impl's functions on elements and exponents. -/
namespace Go.Proofs.Ytiinifcepcaonaa
open Go.RowKit

theorem drewN_zero (w : World) : w = w.drewN 0 := rfl

end Go.Proofs.Ytiinifcepcaonaa

/- Contracts of impl's products, powers, logarithms and inverses. -/
namespace Go.Proofs.Ytiinifcepcaonaa
open Go.RowKit

theorem ret_int {k : IntKind} {a b : Int} (h : a = b) : Ending.returned (.int k a) = .returned (.int k b) := by rw [h]
theorem ret_bool {a b : Bool} (h : a = b) : Ending.returned (.bool a) = .returned (.bool b) := by rw [h]

end Go.Proofs.Ytiinifcepcaonaa

/- Contracts of spec's numbers: remainders, powers, elements, exponents, logarithms, inverses. -/
namespace Go.Proofs.Ytiinifcepcaonaa
open Go.RowKit

/-- Two calls, one behind the other, each of which leaves all that it found. -/
theorem Below.on {a b c : World} (h : Below a.heap.size a b) (k : Below b.heap.size b c) : Below a.heap.size a c := h.trans (k.mono h.size)

end Go.Proofs.Ytiinifcepcaonaa

/- Contracts of spec's products, powers, logarithms and inverses. -/
namespace Go.Proofs.Ytiinifcepcaonaa
open Go.RowKit

end Go.Proofs.Ytiinifcepcaonaa

/- Lists of numbers: what a slice of integers holds; hasInt, sameInts, eqIntS; ElementsOf, impl's and spec's. -/
namespace Go.Proofs.Ytiinifcepcaonaa
open Go.RowKit

/-- The slice v holds the numbers xs. -/
def Ints (w : World) (v : Value) (xs : List Int) : Prop :=
  (v = .slice none 0 0 ∧ xs = []) ∨ ∃ g cap, v = .slice (some ⟨g, 0, none⟩) xs.length cap ∧ xs.length ≤ maxLen ∧ g < w.heap.size ∧ ∀ j, j < xs.length → w.cell? ⟨g, j, none⟩ = some (.int .i64 (nth xs j))

theorem Ints.below {w w' : World} {v : Value} {xs : List Int} (h : Ints w v xs) (hb : Below w.heap.size w w') : Ints w' v xs := by
  rcases h with h | ⟨g, cap, h1, h2, h3, h4⟩
  · exact .inl h
  · exact .inr ⟨g, cap, h1, h2, Nat.lt_of_lt_of_le h3 hb.size, fun j hj => (hb.cell (p := ⟨g, j, none⟩) h3).trans (h4 j hj)⟩

/-- The same slice, owned from block B on. -/
abbrev Own (w : World) (B : Nat) (v : Value) (xs : List Int) : Prop := w.ownsRow B 3 1 v xs.length (xs.map (Value.int .i64))

theorem Ints.of_own {w : World} {B : Nat} {v : Value} {xs : List Int} (h : Own w B v xs) (hl : xs.length ≤ maxLen) : Ints w v xs := by
  have hc := @World.ownsRow.cells _ _ _ _ _ _ _ h
  have hlt := h.lt
  rcases h.2 with ⟨rfl, hn⟩ | ⟨g, cap, cur, rfl, _, _, _, _, _, _⟩
  · exact .inl ⟨rfl, List.length_eq_zero_iff.1 hn⟩
  · refine .inr ⟨g, cap, rfl, hl, (hlt g rfl).2, fun j hj => ?_⟩
    have hadd : (⟨g, 0, none⟩ : Addr).add j = ⟨g, j, none⟩ := by unfold Addr.add; split <;> simp_all
    rw [← hadd]
    refine hc rfl j _ ?_
    simp [List.getElem?_map, List.getElem?_eq_getElem hj, nth_get hj]

theorem own_below {w w' : World} {B : Nat} {v : Value} {xs : List Int} (h : Own w B v xs) (hb : Below w.heap.size w w') : Own w' B v xs := by
  have hg : w.grownBy w' none := ⟨hb.os, hb.tape, hb.output, hb.size, fun k hk _ => hb.block k hk⟩
  exact h.kept hg (by cases hv : v.ownBlock <;> simp)

theorem own_mono {w : World} {B B' : Nat} {v : Value} {xs : List Int} (h : Own w B v xs) (hB : B' ≤ B) : Own w B' v xs := by
  obtain ⟨h1, h2⟩ := h
  refine ⟨h1, ?_⟩
  rcases h2 with h2 | ⟨g, cap, cur, hv, hg, r⟩
  · exact .inl h2
  · exact .inr ⟨g, cap, cur, hv, by omega, r⟩

theorem infoInt : (Try.prog.info? 3).map (fun i => (i.zero, i.size, i.bytes)) = some (some (.int .i64 0), 1, 8) := by kernel_rfl

end Go.Proofs.Ytiinifcepcaonaa

/- hasInt and sameInts. -/
namespace Go.Proofs.Ytiinifcepcaonaa
open Go.RowKit

end Go.Proofs.Ytiinifcepcaonaa

/- eqIntS. -/
namespace Go.Proofs.Ytiinifcepcaonaa
open Go.RowKit

end Go.Proofs.Ytiinifcepcaonaa

/- ElementsOf, impl's and spec's: a new slice with the elements in ascending order. -/
namespace Go.Proofs.Ytiinifcepcaonaa
open Go.RowKit

theorem own_step {w w3 w4 : World} {v v' : Value} {g : Int} {k : Nat} {o : Obj} (hown : Own w3 w.heap.size v (elsTo g k)) (hb : Below w.heap.size w w3)
    (he : elsTo g ((k + 1 : Nat) : Int) = elsTo g k ++ [(k : Int)])
    (hown' : w4.ownsRow w.heap.size 3 1 v' ((elsTo g k).length + 1) ((elsTo g k).map (Value.int .i64) ++ [.int .i64 k])) (hg : (w3.alloc o).grownBy w4 v.ownBlock) :
    Own w4 w.heap.size v' (elsTo g ((k + 1 : Nat) : Int)) ∧ Below w.heap.size w w4 := by
  refine ⟨by unfold Own; rw [he]; simpa using hown', (hb.alloc hb.size o).grown hg (by simp; have := hb.size; omega) (fun j hj => (hown.lt j hj).1)⟩

end Go.Proofs.Ytiinifcepcaonaa

/- spec.ElementsOf: a new slice with the elements in ascending order. -/
namespace Go.Proofs.Ytiinifcepcaonaa
open Go.RowKit

theorem own_made (w : World) (T : TypeId) (hT : T = 3) : Own (w.alloc (.cells #[] T)) w.heap.size (.slice (some ⟨w.heap.size, 0, none⟩) 0 0) [] := by
  subst hT
  exact World.ownsRow_made w #[] 0 (Nat.le_refl _) (Nat.zero_le _) rfl

end Go.Proofs.Ytiinifcepcaonaa
