/- Pure, WalkA, WalkB, WalkC, WalkD, WalkE, WalkF, WalkFa, WalkFb, WalkG, WalkH, in one text. -/
import Derived.Test.YtiinifcepcaonaaDoorRows
import Derived.WalkKit
import Derived.ProofKit
import Derived.BigQuiet
import Derived.Deep.QuietTactic
import Derived.LoopTactic
import Derived.Below
import Derived.WalkSmall
import Derived.Lib.Hide
/- Plain mathematics of the four groups: numbers, no program. -/
namespace Go.Proofs.YtiinifcepcaonaaDoor

def prm (g : Int) : Int := if g = 0 then 7 else if g = 1 then 11 else if g = 2 then 23 else if g = 3 then 47 else -1
def ord (g : Int) : Int := if g = 0 then 3 else if g = 1 then 5 else if g = 2 then 11 else if g = 3 then 23 else -1
def bas (g : Int) : Int := if g = 0 then 2 else if g = 1 then 3 else if g = 2 then 2 else if g = 3 then 2 else -1
def els (g : Int) : List Int := if g = 0 then [1, 2, 4] else if g = 1 then [1, 3, 4, 5, 9] else if g = 2 then [1, 2, 3, 4, 6, 8, 9, 12, 13, 16, 18] else if g = 3 then [1, 2, 3, 4, 6, 7, 8, 9, 12, 14, 16, 17, 18, 21, 24, 25, 27, 28, 32, 34, 36, 37, 42] else []
def gok (g : Int) : Bool := decide (0 ≤ g) && decide (g < 4)
def pw (p a : Int) : Nat → Int
  | 0 => 1
  | n + 1 => pw p a n * a % p
/-- Whether a is an element of group g. -/
def elB (g a : Int) : Bool := (els g).contains a
def exB (g n : Int) : Bool := gok g && decide (0 ≤ n) && decide (n < ord g)
def tim (g a b : Int) : Int := if elB g a && elB g b then a * b % prm g else -1
def powB (n : Int) : Bool := decide (-9999 ≤ n) && decide (n ≤ 9999)
def gpow (g a n : Int) : Int := if elB g a && powB n then pw (prm g) a (n % ord g).toNat else -1
/-- The first exponent below q with which b's power by p is a; -1 if there is none. -/
def logGo (p b a : Int) : Nat → Nat → Int
  | _, 0 => -1
  | k, n + 1 => if pw p b k = a then k else logGo p b a (k + 1) n
def glog (g b a : Int) : Int := if elB g b && elB g a && decide (b ≠ 1) then logGo (prm g) b a 0 (ord g).toNat else -1
def backGo (q n : Int) : Nat → Nat → Int
  | _, 0 => -1
  | k, m + 1 => if n * k % q = 1 then k else backGo q n (k + 1) m
def gback (g n : Int) : Int := if exB g n then backGo (ord g) n 0 (ord g).toNat else -1

theorem g_cases {g : Int} (h0 : 0 ≤ g) (h4 : g < 4) : g = 0 ∨ g = 1 ∨ g = 2 ∨ g = 3 := by omega
theorem gok_true {g : Int} : gok g = true ↔ 0 ≤ g ∧ g < 4 := by simp [gok]
theorem gok_false {g : Int} : gok g = false ↔ ¬ (0 ≤ g ∧ g < 4) := by rw [← gok_true]; simp
theorem els_none {g : Int} (h : ¬ (0 ≤ g ∧ g < 4)) : els g = [] := by unfold els; rw [if_neg (by omega), if_neg (by omega), if_neg (by omega), if_neg (by omega)]
theorem prm_none {g : Int} (h : ¬ (0 ≤ g ∧ g < 4)) : prm g = -1 := by unfold prm; rw [if_neg (by omega), if_neg (by omega), if_neg (by omega), if_neg (by omega)]
theorem ord_none {g : Int} (h : ¬ (0 ≤ g ∧ g < 4)) : ord g = -1 := by unfold ord; rw [if_neg (by omega), if_neg (by omega), if_neg (by omega), if_neg (by omega)]
theorem bas_none {g : Int} (h : ¬ (0 ≤ g ∧ g < 4)) : bas g = -1 := by unfold bas; rw [if_neg (by omega), if_neg (by omega), if_neg (by omega), if_neg (by omega)]
theorem elB_none {g : Int} (h : ¬ (0 ≤ g ∧ g < 4)) (a : Int) : elB g a = false := by unfold elB; rw [els_none h]; rfl
theorem elB_group {g a : Int} (h : elB g a = true) : 0 ≤ g ∧ g < 4 := by
  by_cases hg : 0 ≤ g ∧ g < 4
  · exact hg
  · rw [elB_none hg] at h; cases h
theorem elB_mem {g a : Int} : elB g a = true ↔ a ∈ els g := by unfold elB; simp

/-- A fact on all elements, checked one by one. -/
theorem els_all {g : Int} {P : Int → Prop} [DecidablePred P] (h : ((els g).all fun a => decide (P a)) = true) {a : Int} (ha : elB g a = true) : P a := by
  rw [elB_mem] at ha
  have := List.all_eq_true.1 h a ha
  simpa using this
theorem elB_bound {g a : Int} (h : elB g a = true) : 1 ≤ a ∧ a < prm g ∧ a < 47 := by
  obtain ⟨h0, h4⟩ := elB_group h
  rcases g_cases h0 h4 with rfl | rfl | rfl | rfl
  all_goals exact els_all (P := fun a => 1 ≤ a ∧ a < prm _ ∧ a < 47) (by decide) h

/-- Whether none of the first k powers of b by p is a. -/
def NoneB (p b a : Int) (k : Nat) : Prop := ∀ j, j < k → pw p b j ≠ a
theorem NoneB.zero (p b a : Int) : NoneB p b a 0 := fun _ h => by omega
theorem NoneB.succ {p b a : Int} {k : Nat} (h : NoneB p b a k) (hk : pw p b k ≠ a) : NoneB p b a (k + 1) := fun j hj => by
  by_cases e : j = k
  · rw [e]; exact hk
  · exact h j (by omega)
theorem pw_succ (p b : Int) (k : Nat) : pw p b (k + 1) = pw p b k * b % p := rfl
theorem pw_bound (p b : Int) (hp : 1 < p) : ∀ k, 0 ≤ pw p b k ∧ pw p b k < p
  | 0 => by simp [pw]; omega
  | k + 1 => by rw [pw_succ]; exact ⟨Int.emod_nonneg _ (by omega), Int.emod_lt_of_pos _ (by omega)⟩

theorem el_power_all : ∀ g ∈ [(0 : Int), 1, 2, 3], ∀ k < (ord g).toNat, elB g (pw (prm g) (bas g) k) = true := by decide
theorem el_log_all : ∀ g ∈ [(0 : Int), 1, 2, 3], ∀ a ∈ els g, ∃ k, k < (ord g).toNat ∧ pw (prm g) (bas g) k = a := by decide
theorem el_true {g a : Int} (hg : g ∈ [(0 : Int), 1, 2, 3]) {k : Nat} (hk : k < (ord g).toNat) (h : pw (prm g) (bas g) k = a) : elB g a = true := by
  rw [← h]; exact el_power_all g hg k hk
theorem el_false {g a : Int} (hg : g ∈ [(0 : Int), 1, 2, 3]) (h : NoneB (prm g) (bas g) a (ord g).toNat) : elB g a = false := by
  cases hb : elB g a
  · rfl
  · obtain ⟨k, hk, e⟩ := el_log_all g hg a (elB_mem.1 hb)
    exact absurd e (h k hk)

theorem tmod_bd (n q : Int) (hq : 0 < q) : -q < n.tmod q ∧ n.tmod q < q := by
  have h1 := Int.tmod_lt_of_pos n hq
  have h2 := Int.tmod_lt_of_pos (-n) hq
  rw [Int.neg_tmod] at h2
  omega
theorem rem_eq (n q : Int) : (n.tmod q + q) % q = n % q := by
  rw [Int.tmod_def, show n - q * n.tdiv q + q = n + q * (1 - n.tdiv q) by rw [Int.mul_sub]; omega, Int.add_mul_emod_self_left]
theorem exB_none {g : Int} (h : ¬ (0 ≤ g ∧ g < 4)) (n : Int) : exB g n = false := by unfold exB; rw [gok_false.2 h]; rfl
theorem exB_true {g n : Int} : exB g n = true ↔ (0 ≤ g ∧ g < 4) ∧ 0 ≤ n ∧ n < ord g := by simp [exB, gok_true, and_assoc]
theorem exB_false {g n : Int} : exB g n = false ↔ ¬ ((0 ≤ g ∧ g < 4) ∧ 0 ≤ n ∧ n < ord g) := by rw [← exB_true]; simp
theorem tim_yes {g a b : Int} (ha : elB g a = true) (hb : elB g b = true) : tim g a b = a * b % prm g := by simp [tim, ha, hb]
theorem tim_no1 {g a b : Int} (ha : elB g a = false) : tim g a b = -1 := by simp [tim, ha]
theorem tim_no2 {g a b : Int} (hb : elB g b = false) : tim g a b = -1 := by simp [tim, hb]
theorem powB_true {n : Int} : powB n = true ↔ -9999 ≤ n ∧ n ≤ 9999 := by simp [powB]
theorem powB_false {n : Int} : powB n = false ↔ ¬ (-9999 ≤ n ∧ n ≤ 9999) := by rw [← powB_true]; simp
theorem gpow_yes {g a n : Int} (ha : elB g a = true) (h1 : -9999 ≤ n) (h2 : n ≤ 9999) : gpow g a n = pw (prm g) a (n % ord g).toNat := by simp [gpow, ha, powB_true.2 ⟨h1, h2⟩]
theorem gpow_no1 {g a n : Int} (ha : elB g a = false) : gpow g a n = -1 := by simp [gpow, ha]
theorem gpow_no2 {g a n : Int} (h : ¬ (-9999 ≤ n ∧ n ≤ 9999)) : gpow g a n = -1 := by simp [gpow, powB_false.2 h]
theorem logGo_hit (p b a : Int) (k : Nat) (h : pw p b k = a) : ∀ n j, (∀ i, j ≤ i → i < k → pw p b i ≠ a) → j ≤ k → k < j + n → logGo p b a j n = k
  | 0, j, _, h1, h2 => by omega
  | n + 1, j, hn, h1, h2 => by
    unfold logGo
    by_cases e : j = k
    · rw [if_pos (by rw [e]; exact h), e]
    · rw [if_neg (hn j (Nat.le_refl _) (by omega))]
      exact logGo_hit p b a k h n (j + 1) (fun i hi hk => hn i (by omega) hk) (by omega) (by omega)
theorem logGo_miss (p b a : Int) : ∀ n j, (∀ i, j ≤ i → i < j + n → pw p b i ≠ a) → logGo p b a j n = -1
  | 0, j, _ => rfl
  | n + 1, j, hn => by
    unfold logGo
    rw [if_neg (hn j (Nat.le_refl _) (by omega))]
    exact logGo_miss p b a n (j + 1) (fun i hi hk => hn i (by omega) (by omega))
theorem backGo_hit (q n : Int) (k : Nat) (h : n * k % q = 1) : ∀ m j, (∀ i : Nat, j ≤ i → i < k → n * i % q ≠ 1) → j ≤ k → k < j + m → backGo q n j m = k
  | 0, j, _, h1, h2 => by omega
  | m + 1, j, hn, h1, h2 => by
    unfold backGo
    by_cases e : j = k
    · rw [if_pos (by rw [e]; exact h), e]
    · rw [if_neg (hn j (Nat.le_refl _) (by omega))]
      exact backGo_hit q n k h m (j + 1) (fun i hi hk => hn i (by omega) hk) (by omega) (by omega)
theorem backGo_miss (q n : Int) : ∀ m j, (∀ i : Nat, j ≤ i → i < j + m → n * i % q ≠ 1) → backGo q n j m = -1
  | 0, j, _ => rfl
  | m + 1, j, hn => by
    unfold backGo
    rw [if_neg (hn j (Nat.le_refl _) (by omega))]
    exact backGo_miss q n m (j + 1) (fun i hi hk => hn i (by omega) (by omega))
theorem glog_hit {g b a : Int} (hb : elB g b = true) (ha : elB g a = true) (h1 : b ≠ 1) {k : Nat} (hk : k < (ord g).toNat) (hn : NoneB (prm g) b a k) (h : pw (prm g) b k = a) : glog g b a = k := by
  unfold glog; rw [hb, ha]; simp only [Bool.and_self, Bool.true_and]
  rw [if_pos (by simpa using h1)]
  exact logGo_hit _ _ _ k h _ 0 (fun i _ hi => hn i hi) (by omega) (by omega)
theorem glog_miss {g b a : Int} (hn : NoneB (prm g) b a (ord g).toNat) : glog g b a = -1 := by
  unfold glog; split
  · exact logGo_miss _ _ _ _ 0 (fun i _ hi => hn i (by omega))
  · rfl
theorem glog_no1 {g b a : Int} (hb : elB g b = false) : glog g b a = -1 := by simp [glog, hb]
theorem glog_no2 {g b a : Int} (hb : elB g a = false) : glog g b a = -1 := by simp [glog, hb]
theorem glog_no3 {g a : Int} : glog g 1 a = -1 := by simp [glog]
def NoneR (q n : Int) (k : Nat) : Prop := ∀ j : Nat, j < k → n * j % q ≠ 1
theorem NoneR.zero (q n : Int) : NoneR q n 0 := fun _ h => by omega
theorem NoneR.succ {q n : Int} {k : Nat} (h : NoneR q n k) (hk : n * k % q ≠ 1) : NoneR q n (k + 1) := fun j hj => by
  by_cases e : j = k
  · rw [e]; exact hk
  · exact h j (by omega)
theorem gback_hit {g n : Int} (hx : exB g n = true) {k : Nat} (hk : k < (ord g).toNat) (hn : NoneR (ord g) n k) (h : n * k % ord g = 1) : gback g n = k := by
  unfold gback; rw [hx, if_pos rfl]
  exact backGo_hit _ _ k h _ 0 (fun i _ hi => hn i hi) (by omega) (by omega)
theorem gback_miss {g n : Int} (hn : NoneR (ord g) n (ord g).toNat) : gback g n = -1 := by
  unfold gback; split
  · exact backGo_miss _ _ _ 0 (fun i _ hi => hn i (by omega))
  · rfl
theorem gback_no {g n : Int} (hx : exB g n = false) : gback g n = -1 := by simp [gback, hx]

theorem elB_pow_all : ∀ g ∈ [(0 : Int), 1, 2, 3], ∀ a ∈ (List.range 47).map (fun k : Nat => (k : Int)), 1 ≤ a → a < prm g → elB g a = (pw (prm g) a (ord g).toNat == 1) := by decide +kernel
theorem elB_pow {g a : Int} (h0 : 0 ≤ g) (h4 : g < 4) (h1 : 1 ≤ a) (h2 : a < prm g) : elB g a = (pw (prm g) a (ord g).toNat == 1) := by
  have hp : prm g ≤ 47 := by rcases g_cases h0 h4 with rfl | rfl | rfl | rfl <;> decide
  refine elB_pow_all g (by rcases g_cases h0 h4 with rfl | rfl | rfl | rfl <;> decide) a ?_ h1 h2
  rw [List.mem_map]
  exact ⟨a.toNat, List.mem_range.2 (by omega), by omega⟩
theorem elB_out {g a : Int} (h : ¬ (1 ≤ a ∧ a < prm g)) : elB g a = false := by
  cases hb : elB g a
  · rfl
  · obtain ⟨h1, h2, _⟩ := elB_bound hb
    exact absurd ⟨h1, h2⟩ h
theorem log_all : ∀ g ∈ [(0 : Int), 1, 2, 3], ∀ b ∈ els g, b ≠ 1 → ∀ a ∈ els g, 0 ≤ glog g b a ∧ glog g b a < ord g ∧ pw (prm g) b (glog g b a).toNat = a := by decide +kernel
theorem g_mem {g : Int} (h0 : 0 ≤ g) (h4 : g < 4) : g ∈ [(0 : Int), 1, 2, 3] := by rcases g_cases h0 h4 with rfl | rfl | rfl | rfl <;> decide
theorem glog_spec {g b a : Int} (hb : elB g b = true) (ha : elB g a = true) (h1 : b ≠ 1) : 0 ≤ glog g b a ∧ glog g b a < ord g ∧ pw (prm g) b (glog g b a).toNat = a := by
  obtain ⟨h0, h4⟩ := elB_group hb
  exact log_all g (g_mem h0 h4) b (elB_mem.1 hb) h1 a (elB_mem.1 ha)
theorem glog_first {g b a : Int} (hb : elB g b = true) (ha : elB g a = true) (h1 : b ≠ 1) {k : Nat} (hn : NoneB (prm g) b a k) : (k : Int) ≤ glog g b a := by
  obtain ⟨h2, h3, h4⟩ := glog_spec hb ha h1
  by_cases h : (glog g b a).toNat < k
  · exact absurd h4 (hn _ h)
  · omega
theorem back_all : ∀ g ∈ [(0 : Int), 1, 2, 3], ∀ n ∈ (List.range 23).map (fun k : Nat => (k : Int)), 0 < n → n < ord g → gback g n = pw (ord g) n (ord g - 2).toNat := by decide +kernel
theorem back_zero (g : Int) : gback g 0 = -1 := by
  cases hx : exB g 0
  · exact gback_no hx
  · obtain ⟨⟨h0, h4⟩, _⟩ := exB_true.1 hx
    rcases g_cases h0 h4 with rfl | rfl | rfl | rfl <;> decide
theorem gback_pow {g n : Int} (hx : exB g n = true) (hn : n ≠ 0) : gback g n = pw (ord g) n (ord g - 2).toNat := by
  obtain ⟨⟨h0, h4⟩, n0, n1⟩ := exB_true.1 hx
  have hq : ord g ≤ 23 := by rcases g_cases h0 h4 with rfl | rfl | rfl | rfl <;> decide
  refine back_all g (g_mem h0 h4) n ?_ (by omega) n1
  rw [List.mem_map]
  exact ⟨n.toNat, List.mem_range.2 (by omega), by omega⟩
theorem prm_bd {g : Int} (h0 : 0 ≤ g) (h4 : g < 4) : 7 ≤ prm g ∧ prm g ≤ 47 := by rcases g_cases h0 h4 with rfl | rfl | rfl | rfl <;> decide
theorem ord_bd {g : Int} (h0 : 0 ≤ g) (h4 : g < 4) : 3 ≤ ord g ∧ ord g ≤ 23 := by rcases g_cases h0 h4 with rfl | rfl | rfl | rfl <;> decide
theorem bas_bd {g : Int} (h0 : 0 ≤ g) (h4 : g < 4) : 2 ≤ bas g ∧ bas g ≤ 3 := by rcases g_cases h0 h4 with rfl | rfl | rfl | rfl <;> decide

/-- The elements less than a. -/
def elsTo (g a : Int) : List Int := (els g).filter fun x => decide (x < a)
theorem elsTo_all : ∀ g ∈ [(0 : Int), 1, 2, 3], ∀ a ∈ (List.range 47).map (fun k : Nat => (k : Int)), elsTo g (a + 1) = elsTo g a ++ if elB g a then [a] else [] := by decide +kernel
theorem elsTo_step {g : Int} (h0 : 0 ≤ g) (h4 : g < 4) {k : Nat} (hk : k < 47) : elsTo g ((k : Int) + 1) = elsTo g k ++ if elB g k then [(k : Int)] else [] :=
  elsTo_all g (g_mem h0 h4) k (List.mem_map.2 ⟨k, List.mem_range.2 hk, rfl⟩)
theorem elsTo_yes {g : Int} (h0 : 0 ≤ g) (h4 : g < 4) {k : Nat} (hk : k < 47) (he : elB g k = true) : elsTo g ((k + 1 : Nat) : Int) = elsTo g k ++ [(k : Int)] := by
  have := elsTo_step h0 h4 hk
  rw [he] at this; simpa using this
theorem elsTo_no {g : Int} (h0 : 0 ≤ g) (h4 : g < 4) {k : Nat} (hk : k < 47) (he : elB g k = false) : elsTo g ((k + 1 : Nat) : Int) = elsTo g k := by
  have := elsTo_step h0 h4 hk
  rw [he] at this; simpa using this
theorem elsTo_prm {g : Int} (h0 : 0 ≤ g) (h4 : g < 4) : elsTo g (prm g) = els g := by rcases g_cases h0 h4 with rfl | rfl | rfl | rfl <;> decide
theorem elsTo_one {g : Int} (h0 : 0 ≤ g) (h4 : g < 4) : elsTo g 1 = [] := by rcases g_cases h0 h4 with rfl | rfl | rfl | rfl <;> decide
theorem els_len {g : Int} : (els g).length ≤ 23 := by
  by_cases hg : 0 ≤ g ∧ g < 4
  · rcases g_cases hg.1 hg.2 with rfl | rfl | rfl | rfl <;> decide
  · rw [els_none hg]; decide
theorem elsTo_len (g a : Int) : (elsTo g a).length ≤ 23 := Nat.le_trans (List.length_filter_le _ _) els_len
theorem els_ord {g : Int} (h0 : 0 ≤ g) (h4 : g < 4) : ((els g).length : Int) = ord g := by rcases g_cases h0 h4 with rfl | rfl | rfl | rfl <;> decide

/-- The number at place j. -/
def nth (xs : List Int) (j : Nat) : Int := xs.getD j 0
def hasB (xs : List Int) (n : Int) : Bool := xs.contains n
def sameB (xs ys : List Int) : Bool := decide (xs = ys)
def NotIn (xs : List Int) (n : Int) (k : Nat) : Prop := ∀ j, j < k → nth xs j ≠ n
def SameTo (xs ys : List Int) (k : Nat) : Prop := ∀ j, j < k → nth xs j = nth ys j
theorem NotIn.zero (xs : List Int) (n : Int) : NotIn xs n 0 := fun _ h => by omega
theorem NotIn.succ {xs : List Int} {n : Int} {k : Nat} (h : NotIn xs n k) (hk : nth xs k ≠ n) : NotIn xs n (k + 1) := fun j hj => by
  by_cases e : j = k
  · rw [e]; exact hk
  · exact h j (by omega)
theorem SameTo.zero (xs ys : List Int) : SameTo xs ys 0 := fun _ h => by omega
theorem SameTo.succ {xs ys : List Int} {k : Nat} (h : SameTo xs ys k) (hk : nth xs k = nth ys k) : SameTo xs ys (k + 1) := fun j hj => by
  by_cases e : j = k
  · rw [e]; exact hk
  · exact h j (by omega)
theorem nth_get {xs : List Int} {j : Nat} (h : j < xs.length) : nth xs j = xs[j] := by
  unfold nth; rw [List.getD_eq_getElem?_getD, List.getElem?_eq_getElem h]; rfl
theorem nth_mem {xs : List Int} {j : Nat} (h : j < xs.length) : nth xs j ∈ xs := by rw [nth_get h]; exact List.getElem_mem _
theorem has_yes {xs : List Int} {n : Int} {k : Nat} (h : k < xs.length) (he : nth xs k = n) : hasB xs n = true := by
  unfold hasB; rw [List.contains_iff_mem, ← he]; exact nth_mem h
theorem has_no {xs : List Int} {n : Int} (h : NotIn xs n xs.length) : hasB xs n = false := by
  cases hb : hasB xs n
  · rfl
  · unfold hasB at hb
    rw [List.contains_iff_mem] at hb
    obtain ⟨j, hj, e⟩ := List.getElem_of_mem hb
    exact absurd (by rw [nth_get hj]; exact e) (h j hj)
theorem same_len {xs ys : List Int} (h : xs.length ≠ ys.length) : sameB xs ys = false := by
  unfold sameB; rw [decide_eq_false_iff_not]; intro e; rw [e] at h; exact h rfl
theorem same_no {xs ys : List Int} {k : Nat} (he : nth xs k ≠ nth ys k) : sameB xs ys = false := by
  unfold sameB; rw [decide_eq_false_iff_not]; intro e; rw [e] at he; exact he rfl
theorem same_yes {xs ys : List Int} (hl : xs.length = ys.length) (h : SameTo xs ys xs.length) : sameB xs ys = true := by
  unfold sameB; rw [decide_eq_true_iff]
  refine List.ext_getElem hl fun j h1 h2 => ?_
  rw [← nth_get h1, ← nth_get h2]; exact h j h1
theorem sameB_refl (xs : List Int) : sameB xs xs = true := by simp [sameB]
theorem hasB_els (g a : Int) : hasB (els g) a = elB g a := rfl

end Go.Proofs.YtiinifcepcaonaaDoor

/- Contracts of the small functions: impl.groupOk, spec.l1In, impl.remainder, impl.GroupPrime/Order/Base, spec.GroupPrime/Order/Base, spec.l1Mod. -/
namespace Go.Proofs.YtiinifcepcaonaaDoor
open Go.RowKit

/-- The cells of impl.groups. -/
structure Gr (w : World) : Prop where
  c0 : w.cell? ⟨0, 0, none⟩ = some (.int .i64 7)
  c1 : w.cell? ⟨0, 1, none⟩ = some (.int .i64 3)
  c2 : w.cell? ⟨0, 2, none⟩ = some (.int .i64 2)
  c3 : w.cell? ⟨0, 3, none⟩ = some (.int .i64 11)
  c4 : w.cell? ⟨0, 4, none⟩ = some (.int .i64 5)
  c5 : w.cell? ⟨0, 5, none⟩ = some (.int .i64 3)
  c6 : w.cell? ⟨0, 6, none⟩ = some (.int .i64 23)
  c7 : w.cell? ⟨0, 7, none⟩ = some (.int .i64 11)
  c8 : w.cell? ⟨0, 8, none⟩ = some (.int .i64 2)
  c9 : w.cell? ⟨0, 9, none⟩ = some (.int .i64 47)
  c10 : w.cell? ⟨0, 10, none⟩ = some (.int .i64 23)
  c11 : w.cell? ⟨0, 11, none⟩ = some (.int .i64 2)

theorem groupOk_any (g : Int) (w : World) : Calls Tryd.prog 40 #[.int .i64 g] w fun e w' => e = .returned (.bool (gok g)) ∧ w = w' := by
  go_enter Tryd.func40, Tryd.ntmps40
  go_wp2
  all_goals (go_ret; refine ⟨?_, rfl⟩; first | (simp [gok, *]; done) | (simp [gok, *]; omega))

theorem l1In_any (n a b : Int) (w : World) : Calls Tryd.prog 38 #[.int .i64 n, .int .i64 a, .int .i64 b] w fun e w' => e = .returned (.bool (decide (a ≤ n) && decide (n ≤ b))) ∧ w = w' := by
  go_enter Tryd.func38, Tryd.ntmps38
  go_wp2
  all_goals (go_ret; refine ⟨?_, rfl⟩; first | (simp [*]; done) | (simp [*]; omega))

theorem iprm_any (g : Int) (w : World) (G : Gr w) : Calls Tryd.prog 52 #[.int .i64 g] w fun e w' => e = .returned (.int .i64 (prm g)) ∧ w = w' := by
  by_cases hg : 0 ≤ g ∧ g < 4
  · obtain ⟨c0, c1, c2, c3, c4, c5, c6, c7, c8, c9, c10, c11⟩ := G
    obtain ⟨h0, h4⟩ := hg
    rcases g_cases h0 h4 with rfl | rfl | rfl | rfl <;> clear h0 h4
    all_goals
      go_enter Tryd.func52, Tryd.ntmps52
      go_wp2_with (go_at_call 40; refine (groupOk_any _ _).mono ?_; rintro e w' ⟨rfl, rfl⟩)
      go_ret
      exact ⟨rfl, rfl⟩
  · have hb : gok g = false := by simp [gok]; omega
    have hn : prm g = -1 := by unfold prm; rw [if_neg (by omega), if_neg (by omega), if_neg (by omega), if_neg (by omega)]
    have HN := Lib.hid hn; clear hn
    clear G
    go_enter Tryd.func52, Tryd.ntmps52
    go_wp2_with (go_at_call 40; refine (groupOk_any _ _).mono ?_; rintro e w' ⟨rfl, rfl⟩)
    go_ret
    exact ⟨by rw [HN.out]; rfl, rfl⟩

theorem sprm_any (g : Int) (w : World) : Calls Tryd.prog 73 #[.int .i64 g] w fun e w' => e = .returned (.int .i64 (prm g)) ∧ Below w.heap.size w w' := by
  by_cases hg : 0 ≤ g ∧ g < 4
  · obtain ⟨h0, h4⟩ := hg
    rcases g_cases h0 h4 with rfl | rfl | rfl | rfl <;> clear h0 h4
    all_goals
      go_enter Tryd.func73, Tryd.ntmps73
      go_wp2_with (go_at_call 38; refine (l1In_any _ _ _ _).mono ?_; rintro e w' ⟨rfl, rfl⟩)
      go_ret
      exact ⟨rfl, (Below.refl _ _).alloc (Nat.le_refl _) _⟩
  · have hb : (decide (0 ≤ g) && decide (g ≤ 3)) = false := by simp; omega
    have hn : prm g = -1 := by unfold prm; rw [if_neg (by omega), if_neg (by omega), if_neg (by omega), if_neg (by omega)]
    have HN := Lib.hid hn; clear hn
    go_enter Tryd.func73, Tryd.ntmps73
    go_wp2_with (go_at_call 38; refine (l1In_any _ _ _ _).mono ?_; rintro e w' ⟨rfl, rfl⟩)
    go_ret
    exact ⟨by rw [HN.out]; rfl, Below.refl _ _⟩

theorem iord_any (g : Int) (w : World) (G : Gr w) : Calls Tryd.prog 53 #[.int .i64 g] w fun e w' => e = .returned (.int .i64 (ord g)) ∧ w = w' := by
  by_cases hg : 0 ≤ g ∧ g < 4
  · obtain ⟨c0, c1, c2, c3, c4, c5, c6, c7, c8, c9, c10, c11⟩ := G
    obtain ⟨h0, h4⟩ := hg
    rcases g_cases h0 h4 with rfl | rfl | rfl | rfl <;> clear h0 h4
    all_goals
      go_enter Tryd.func53, Tryd.ntmps53
      go_wp2_with (go_at_call 40; refine (groupOk_any _ _).mono ?_; rintro e w' ⟨rfl, rfl⟩)
      go_ret
      exact ⟨rfl, rfl⟩
  · have hb : gok g = false := by simp [gok]; omega
    have hn : ord g = -1 := by unfold ord; rw [if_neg (by omega), if_neg (by omega), if_neg (by omega), if_neg (by omega)]
    have HN := Lib.hid hn; clear hn
    clear G
    go_enter Tryd.func53, Tryd.ntmps53
    go_wp2_with (go_at_call 40; refine (groupOk_any _ _).mono ?_; rintro e w' ⟨rfl, rfl⟩)
    go_ret
    exact ⟨by rw [HN.out]; rfl, rfl⟩

theorem sord_any (g : Int) (w : World) : Calls Tryd.prog 63 #[.int .i64 g] w fun e w' => e = .returned (.int .i64 (ord g)) ∧ Below w.heap.size w w' := by
  by_cases hg : 0 ≤ g ∧ g < 4
  · obtain ⟨h0, h4⟩ := hg
    rcases g_cases h0 h4 with rfl | rfl | rfl | rfl <;> clear h0 h4
    all_goals
      go_enter Tryd.func63, Tryd.ntmps63
      go_wp2_with (go_at_call 38; refine (l1In_any _ _ _ _).mono ?_; rintro e w' ⟨rfl, rfl⟩)
      go_ret
      exact ⟨rfl, (Below.refl _ _).alloc (Nat.le_refl _) _⟩
  · have hb : (decide (0 ≤ g) && decide (g ≤ 3)) = false := by simp; omega
    have hn : ord g = -1 := by unfold ord; rw [if_neg (by omega), if_neg (by omega), if_neg (by omega), if_neg (by omega)]
    have HN := Lib.hid hn; clear hn
    go_enter Tryd.func63, Tryd.ntmps63
    go_wp2_with (go_at_call 38; refine (l1In_any _ _ _ _).mono ?_; rintro e w' ⟨rfl, rfl⟩)
    go_ret
    exact ⟨by rw [HN.out]; rfl, Below.refl _ _⟩

theorem sbas_any (g : Int) (w : World) : Calls Tryd.prog 77 #[.int .i64 g] w fun e w' => e = .returned (.int .i64 (bas g)) ∧ Below w.heap.size w w' := by
  by_cases hg : 0 ≤ g ∧ g < 4
  · obtain ⟨h0, h4⟩ := hg
    rcases g_cases h0 h4 with rfl | rfl | rfl | rfl <;> clear h0 h4
    all_goals
      go_enter Tryd.func77, Tryd.ntmps77
      go_wp2_with (go_at_call 38; refine (l1In_any _ _ _ _).mono ?_; rintro e w' ⟨rfl, rfl⟩)
      go_ret
      exact ⟨rfl, (Below.refl _ _).alloc (Nat.le_refl _) _⟩
  · have hb : (decide (0 ≤ g) && decide (g ≤ 3)) = false := by simp; omega
    have hn : bas g = -1 := by unfold bas; rw [if_neg (by omega), if_neg (by omega), if_neg (by omega), if_neg (by omega)]
    have HN := Lib.hid hn; clear hn
    go_enter Tryd.func77, Tryd.ntmps77
    go_wp2_with (go_at_call 38; refine (l1In_any _ _ _ _).mono ?_; rintro e w' ⟨rfl, rfl⟩)
    go_ret
    exact ⟨by rw [HN.out]; rfl, Below.refl _ _⟩

end Go.Proofs.YtiinifcepcaonaaDoor

/- Contracts of impl's functions on elements and exponents. -/
namespace Go.Proofs.YtiinifcepcaonaaDoor
open Go.RowKit

theorem Gr.drewN {w : World} (h : Gr w) (n : Nat) : Gr (w.drewN n) := ⟨h.c0, h.c1, h.c2, h.c3, h.c4, h.c5, h.c6, h.c7, h.c8, h.c9, h.c10, h.c11⟩
theorem drewN_zero (w : World) : w = w.drewN 0 := rfl

theorem iel0 (a : Int) (w : World) (G : Gr w) : Calls Tryd.prog 32 #[.int .i64 0, .int .i64 a] w fun e w' => e = .returned (.bool (elB 0 a)) ∧ ∃ m, w' = w.drewN m := by
  obtain ⟨c0, c1, c2, c3, c4, c5, c6, c7, c8, c9, c10, c11⟩ := G
  go_enter Tryd.func32, Tryd.ntmps32
  go_wp2_with (go_at_call 40; refine (groupOk_any _ _).mono ?_; rintro e w' ⟨rfl, rfl⟩)
  go_loopw [5, 13] (fun x n wr => ∃ k : Nat, k ≤ 3 ∧ n = .int .i64 k ∧ x = .int .i64 (pw 7 2 k) ∧ NoneB 7 2 a k ∧ ∃ m, wr = w.drewN m) (fun _ n _ => 3 - (intOf n).toNat)
  case atStart => exact ⟨0, by omega, rfl, rfl, NoneB.zero _ _ _, 0, rfl⟩
  case round =>
    obtain ⟨k, hk, rfl, rfl, hn, m, rfl⟩ := hrel
    obtain ⟨hb0, hb1⟩ := pw_bound 7 2 (by omega) k
    have hs := Lib.hid (pw_succ 7 2 k)
    by_cases hlt : k < 3
    · by_cases he : pw 7 2 k = a
      · have HT := Lib.hid (el_true (g := 0) (by decide) hlt he)
        subst he
        go_wp2
        go_ret
        exact ⟨by rw [HT.out]; rfl, m, rfl⟩
      · have hne : (pw 7 2 k == a) = false := by simpa using he
        have hn' := hn.succ he
        clear hn he
        go_wp2_with fail
        go_quiet (fail)
        go_wp2
        go_roundw
        case rel => exact ⟨k + 1, by omega, by go_num, by rw [hs.out], hn', _, rfl⟩
        case measure => simp [intOf]; omega
    · obtain rfl : k = 3 := by omega
      have HF := Lib.hid (el_false (g := 0) (by decide) hn)
      clear hn
      go_wp2
      go_ret
      exact ⟨by rw [HF.out]; rfl, m, rfl⟩

theorem iel1 (a : Int) (w : World) (G : Gr w) : Calls Tryd.prog 32 #[.int .i64 1, .int .i64 a] w fun e w' => e = .returned (.bool (elB 1 a)) ∧ ∃ m, w' = w.drewN m := by
  obtain ⟨c0, c1, c2, c3, c4, c5, c6, c7, c8, c9, c10, c11⟩ := G
  go_enter Tryd.func32, Tryd.ntmps32
  go_wp2_with (go_at_call 40; refine (groupOk_any _ _).mono ?_; rintro e w' ⟨rfl, rfl⟩)
  go_loopw [5, 13] (fun x n wr => ∃ k : Nat, k ≤ 5 ∧ n = .int .i64 k ∧ x = .int .i64 (pw 11 3 k) ∧ NoneB 11 3 a k ∧ ∃ m, wr = w.drewN m) (fun _ n _ => 5 - (intOf n).toNat)
  case atStart => exact ⟨0, by omega, rfl, rfl, NoneB.zero _ _ _, 0, rfl⟩
  case round =>
    obtain ⟨k, hk, rfl, rfl, hn, m, rfl⟩ := hrel
    obtain ⟨hb0, hb1⟩ := pw_bound 11 3 (by omega) k
    have hs := Lib.hid (pw_succ 11 3 k)
    by_cases hlt : k < 5
    · by_cases he : pw 11 3 k = a
      · have HT := Lib.hid (el_true (g := 1) (by decide) hlt he)
        subst he
        go_wp2
        go_ret
        exact ⟨by rw [HT.out]; rfl, m, rfl⟩
      · have hne : (pw 11 3 k == a) = false := by simpa using he
        have hn' := hn.succ he
        clear hn he
        go_wp2_with fail
        go_quiet (fail)
        go_wp2
        go_roundw
        case rel => exact ⟨k + 1, by omega, by go_num, by rw [hs.out], hn', _, rfl⟩
        case measure => simp [intOf]; omega
    · obtain rfl : k = 5 := by omega
      have HF := Lib.hid (el_false (g := 1) (by decide) hn)
      clear hn
      go_wp2
      go_ret
      exact ⟨by rw [HF.out]; rfl, m, rfl⟩

theorem iel2 (a : Int) (w : World) (G : Gr w) : Calls Tryd.prog 32 #[.int .i64 2, .int .i64 a] w fun e w' => e = .returned (.bool (elB 2 a)) ∧ ∃ m, w' = w.drewN m := by
  obtain ⟨c0, c1, c2, c3, c4, c5, c6, c7, c8, c9, c10, c11⟩ := G
  go_enter Tryd.func32, Tryd.ntmps32
  go_wp2_with (go_at_call 40; refine (groupOk_any _ _).mono ?_; rintro e w' ⟨rfl, rfl⟩)
  go_loopw [5, 13] (fun x n wr => ∃ k : Nat, k ≤ 11 ∧ n = .int .i64 k ∧ x = .int .i64 (pw 23 2 k) ∧ NoneB 23 2 a k ∧ ∃ m, wr = w.drewN m) (fun _ n _ => 11 - (intOf n).toNat)
  case atStart => exact ⟨0, by omega, rfl, rfl, NoneB.zero _ _ _, 0, rfl⟩
  case round =>
    obtain ⟨k, hk, rfl, rfl, hn, m, rfl⟩ := hrel
    obtain ⟨hb0, hb1⟩ := pw_bound 23 2 (by omega) k
    have hs := Lib.hid (pw_succ 23 2 k)
    by_cases hlt : k < 11
    · by_cases he : pw 23 2 k = a
      · have HT := Lib.hid (el_true (g := 2) (by decide) hlt he)
        subst he
        go_wp2
        go_ret
        exact ⟨by rw [HT.out]; rfl, m, rfl⟩
      · have hne : (pw 23 2 k == a) = false := by simpa using he
        have hn' := hn.succ he
        clear hn he
        go_wp2_with fail
        go_quiet (fail)
        go_wp2
        go_roundw
        case rel => exact ⟨k + 1, by omega, by go_num, by rw [hs.out], hn', _, rfl⟩
        case measure => simp [intOf]; omega
    · obtain rfl : k = 11 := by omega
      have HF := Lib.hid (el_false (g := 2) (by decide) hn)
      clear hn
      go_wp2
      go_ret
      exact ⟨by rw [HF.out]; rfl, m, rfl⟩

theorem iel3 (a : Int) (w : World) (G : Gr w) : Calls Tryd.prog 32 #[.int .i64 3, .int .i64 a] w fun e w' => e = .returned (.bool (elB 3 a)) ∧ ∃ m, w' = w.drewN m := by
  obtain ⟨c0, c1, c2, c3, c4, c5, c6, c7, c8, c9, c10, c11⟩ := G
  go_enter Tryd.func32, Tryd.ntmps32
  go_wp2_with (go_at_call 40; refine (groupOk_any _ _).mono ?_; rintro e w' ⟨rfl, rfl⟩)
  go_loopw [5, 13] (fun x n wr => ∃ k : Nat, k ≤ 23 ∧ n = .int .i64 k ∧ x = .int .i64 (pw 47 2 k) ∧ NoneB 47 2 a k ∧ ∃ m, wr = w.drewN m) (fun _ n _ => 23 - (intOf n).toNat)
  case atStart => exact ⟨0, by omega, rfl, rfl, NoneB.zero _ _ _, 0, rfl⟩
  case round =>
    obtain ⟨k, hk, rfl, rfl, hn, m, rfl⟩ := hrel
    obtain ⟨hb0, hb1⟩ := pw_bound 47 2 (by omega) k
    have hs := Lib.hid (pw_succ 47 2 k)
    by_cases hlt : k < 23
    · by_cases he : pw 47 2 k = a
      · have HT := Lib.hid (el_true (g := 3) (by decide) hlt he)
        subst he
        go_wp2
        go_ret
        exact ⟨by rw [HT.out]; rfl, m, rfl⟩
      · have hne : (pw 47 2 k == a) = false := by simpa using he
        have hn' := hn.succ he
        clear hn he
        go_wp2_with fail
        go_quiet (fail)
        go_wp2
        go_roundw
        case rel => exact ⟨k + 1, by omega, by go_num, by rw [hs.out], hn', _, rfl⟩
        case measure => simp [intOf]; omega
    · obtain rfl : k = 23 := by omega
      have HF := Lib.hid (el_false (g := 3) (by decide) hn)
      clear hn
      go_wp2
      go_ret
      exact ⟨by rw [HF.out]; rfl, m, rfl⟩

theorem iel_any (g a : Int) (w : World) (G : Gr w) : Calls Tryd.prog 32 #[.int .i64 g, .int .i64 a] w fun e w' => e = .returned (.bool (elB g a)) ∧ ∃ m, w' = w.drewN m := by
  by_cases hg : 0 ≤ g ∧ g < 4
  · obtain ⟨h0, h4⟩ := hg
    rcases g_cases h0 h4 with rfl | rfl | rfl | rfl
    · exact iel0 a w G
    · exact iel1 a w G
    · exact iel2 a w G
    · exact iel3 a w G
  · have hb : gok g = false := gok_false.2 hg
    have HN := Lib.hid (elB_none hg a)
    clear G hg
    go_enter Tryd.func32, Tryd.ntmps32
    go_wp2_with (go_at_call 40; refine (groupOk_any _ _).mono ?_; rintro e w' ⟨rfl, rfl⟩)
    go_ret
    exact ⟨by rw [HN.out]; rfl, 0, rfl⟩

end Go.Proofs.YtiinifcepcaonaaDoor

/- Contracts of impl's products, powers, logarithms and inverses. -/
namespace Go.Proofs.YtiinifcepcaonaaDoor
open Go.RowKit

theorem ret_int {k : IntKind} {a b : Int} (h : a = b) : Ending.returned (.int k a) = .returned (.int k b) := by rw [h]
theorem ret_bool {a b : Bool} (h : a = b) : Ending.returned (.bool a) = .returned (.bool b) := by rw [h]

theorem iex_any (g n : Int) (w : World) (G : Gr w) : Calls Tryd.prog 56 #[.int .i64 g, .int .i64 n] w fun e w' => e = .returned (.bool (exB g n)) ∧ w = w' := by
  by_cases hg : 0 ≤ g ∧ g < 4
  · obtain ⟨c0, c1, c2, c3, c4, c5, c6, c7, c8, c9, c10, c11⟩ := G
    by_cases hn : 0 ≤ n
    · by_cases h1 : n < ord g
      · have HX := Lib.hid (exB_true.2 ⟨hg, hn, h1⟩)
        obtain ⟨h0, h4⟩ := hg
        rcases g_cases h0 h4 with rfl | rfl | rfl | rfl <;> clear h0 h4
        all_goals
          simp [ord] at h1
          have hd := decide_eq_true h1
          go_enter Tryd.func56, Tryd.ntmps56
          go_wp2_with (go_at_call 40; refine (groupOk_any _ _).mono ?_; rintro e w1 ⟨rfl, rfl⟩)
          go_ret
          exact ⟨by rw [HX.out]; rfl, rfl⟩
      · have HX := Lib.hid (exB_false (g := g).2 (fun h => h1 h.2.2))
        obtain ⟨h0, h4⟩ := hg
        rcases g_cases h0 h4 with rfl | rfl | rfl | rfl <;> clear h0 h4
        all_goals
          simp [ord] at h1
          have hd := decide_eq_false (Int.not_lt.2 h1)
          go_enter Tryd.func56, Tryd.ntmps56
          go_wp2_with (go_at_call 40; refine (groupOk_any _ _).mono ?_; rintro e w1 ⟨rfl, rfl⟩)
          go_ret
          exact ⟨by rw [HX.out]; rfl, rfl⟩
    · have HX := Lib.hid (exB_false (g := g).2 (fun h => hn h.2.1))
      have hb : gok g = true := gok_true.2 hg
      go_enter Tryd.func56, Tryd.ntmps56
      go_wp2_with (go_at_call 40; refine (groupOk_any _ _).mono ?_; rintro e w1 ⟨rfl, rfl⟩)
      go_ret
      exact ⟨by rw [HX.out]; rfl, rfl⟩
  · have hb : gok g = false := gok_false.2 hg
    have HX := Lib.hid (exB_none hg n)
    clear G hg
    go_enter Tryd.func56, Tryd.ntmps56
    go_wp2_with (go_at_call 40; refine (groupOk_any _ _).mono ?_; rintro e w1 ⟨rfl, rfl⟩)
    go_ret
    exact ⟨by rw [HX.out]; rfl, rfl⟩

theorem irem_any (n q : Int) (w : World) (h1 : -9999 ≤ n) (h2 : n ≤ 9999) (q1 : 1 ≤ q) (q2 : q ≤ 100) : Calls Tryd.prog 72 #[.int .i64 n, .int .i64 q] w fun e w' => e = .returned (.int .i64 (n % q)) ∧ w = w' := by
  obtain ⟨b1, b2⟩ := tmod_bd n q (by omega)
  have HR := Lib.hid (rem_eq n q)
  have hq : (q == 0) = false := by simp; omega
  by_cases hn : 0 ≤ n
  · have HT := Lib.hid (Int.tmod_eq_emod_of_nonneg (b := q) hn)
    have k1 := Int.emod_nonneg n (show q ≠ 0 by omega)
    have k2 := Int.emod_lt_of_pos n (show 0 < q by omega)
    go_enter Tryd.func72, Tryd.ntmps72
    go_wp2
    go_ret
    exact ⟨ret_int (by have := HR.out; rw [HT.out] at this; exact this), rfl⟩
  · go_enter Tryd.func72, Tryd.ntmps72
    go_wp2
    go_ret
    exact ⟨ret_int (by have := HR.out; rwa [Int.add_emod_right] at this), rfl⟩

theorem itim_any (g a b : Int) (w : World) (G : Gr w) : Calls Tryd.prog 71 #[.int .i64 g, .int .i64 a, .int .i64 b] w fun e w' => e = .returned (.int .i64 (tim g a b)) ∧ ∃ m, w' = w.drewN m := by
  cases ha : elB g a
  · have HX := Lib.hid (tim_no1 (b := b) ha)
    go_enter Tryd.func71, Tryd.ntmps71
    go_wp2_with (go_at_call 32; refine (iel_any _ _ _ (by first | assumption | exact Gr.drewN ‹_› _)).mono ?_; rintro e w1 ⟨rfl, m, rfl⟩)
    go_ret
    exact ⟨by rw [HX.out]; rfl, _, rfl⟩
  · cases hb : elB g b
    · have HX := Lib.hid (tim_no2 (a := a) hb)
      go_enter Tryd.func71, Tryd.ntmps71
      go_wp2_with (go_at_call 32; refine (iel_any _ _ _ (by first | assumption | exact Gr.drewN ‹_› _)).mono ?_; rintro e w1 ⟨rfl, m, rfl⟩)
      go_ret
      exact ⟨by rw [HX.out]; rfl, _, rfl⟩
    · have HX := Lib.hid (tim_yes ha hb)
      obtain ⟨a1, a2, a3⟩ := elB_bound ha
      obtain ⟨b1, b2, b3⟩ := elB_bound hb
      obtain ⟨h0, h4⟩ := elB_group ha
      have p0 : 0 ≤ a * b := Int.mul_nonneg (by omega) (by omega)
      have p1 : a * b ≤ 47 * 47 := Int.mul_le_mul (by omega) (by omega) (by omega) (by omega)
      have G' := G
      obtain ⟨c0, c1, c2, c3, c4, c5, c6, c7, c8, c9, c10, c11⟩ := G'
      clear a2 b2
      rcases g_cases h0 h4 with rfl | rfl | rfl | rfl <;> clear h0 h4
      all_goals
        go_enter Tryd.func71, Tryd.ntmps71
        go_wp2_with (go_at_call 32; refine (iel_any _ _ _ (by first | assumption | exact Gr.drewN ‹_› _)).mono ?_; rintro e w1 ⟨rfl, m, rfl⟩)
        go_ret
        exact ⟨by rw [HX.out]; rfl, _, rfl⟩

theorem ipow_any (g a n : Int) (w : World) (G : Gr w) : Calls Tryd.prog 57 #[.int .i64 g, .int .i64 a, .int .i64 n] w fun e w' => e = .returned (.int .i64 (gpow g a n)) ∧ ∃ m, w' = w.drewN m := by
  cases ha : elB g a
  · have HX := Lib.hid (gpow_no1 (n := n) ha)
    go_enter Tryd.func57, Tryd.ntmps57
    go_wp2_with (go_at_call 32; refine (iel_any _ _ _ (by first | assumption | exact Gr.drewN ‹_› _)).mono ?_; rintro e w1 ⟨rfl, m, rfl⟩)
    go_ret
    exact ⟨by rw [HX.out]; rfl, _, rfl⟩
  · by_cases h1 : -9999 ≤ n
    · by_cases h2 : n ≤ 9999
      · have HX := Lib.hid (gpow_yes ha h1 h2)
        obtain ⟨a1, a2, a3⟩ := elB_bound ha
        obtain ⟨h0, h4⟩ := elB_group ha
        have G' := G
        obtain ⟨c0, c1, c2, c3, c4, c5, c6, c7, c8, c9, c10, c11⟩ := G'
        clear a2
        rcases g_cases h0 h4 with rfl | rfl | rfl | rfl <;> clear h0 h4
        · obtain ⟨r, hr⟩ : ∃ r : Nat, n % 3 = r := ⟨(n % 3).toNat, by omega⟩
          have hr2 : r < 3 := by omega
          have HR := Lib.hid hr; clear hr
          go_enter Tryd.func57, Tryd.ntmps57
          go_wp2_with (first | (go_at_call 32; refine (iel_any _ _ _ (by first | assumption | exact Gr.drewN ‹_› _)).mono ?_; rintro e w1 ⟨rfl, m, rfl⟩) | (go_at_call 72; refine (irem_any _ _ _ (by omega) (by omega) (by omega) (by omega)).mono ?_; rintro e w1 ⟨rfl, rfl⟩))
          rw [HR.out]
          go_wp2
          go_loopw [7, 26] (fun x n wr => ∃ k : Nat, k ≤ r ∧ n = .int .i64 k ∧ x = .int .i64 (pw 7 a k) ∧ ∃ m, wr = w.drewN m) (fun _ n _ => r - (intOf n).toNat)
          case atStart => exact ⟨0, by omega, rfl, rfl, _, rfl⟩
          case round =>
            obtain ⟨k, hk, rfl, rfl, m, rfl⟩ := hrel
            obtain ⟨hb0, hb1⟩ := pw_bound 7 a (by omega) k
            have p0 : 0 ≤ pw 7 a k * a := Int.mul_nonneg (by omega) (by omega)
            have p1 : pw 7 a k * a ≤ 47 * 47 := Int.mul_le_mul (by omega) (by omega) (by omega) (by omega)
            have hs := Lib.hid (pw_succ 7 a k)
            by_cases hlt : k < r
            · go_wp2
              go_roundw
              case rel => exact ⟨k + 1, by omega, by go_num, by rw [hs.out], _, rfl⟩
              case measure => simp [intOf]; omega
            · obtain rfl : k = r := by omega
              go_wp2
              go_ret
              exact ⟨ret_int (by rw [HX.out, show ord 0 = 3 from rfl, HR.out]; rfl), m, rfl⟩
        · obtain ⟨r, hr⟩ : ∃ r : Nat, n % 5 = r := ⟨(n % 5).toNat, by omega⟩
          have hr2 : r < 5 := by omega
          have HR := Lib.hid hr; clear hr
          go_enter Tryd.func57, Tryd.ntmps57
          go_wp2_with (first | (go_at_call 32; refine (iel_any _ _ _ (by first | assumption | exact Gr.drewN ‹_› _)).mono ?_; rintro e w1 ⟨rfl, m, rfl⟩) | (go_at_call 72; refine (irem_any _ _ _ (by omega) (by omega) (by omega) (by omega)).mono ?_; rintro e w1 ⟨rfl, rfl⟩))
          rw [HR.out]
          go_wp2
          go_loopw [7, 26] (fun x n wr => ∃ k : Nat, k ≤ r ∧ n = .int .i64 k ∧ x = .int .i64 (pw 11 a k) ∧ ∃ m, wr = w.drewN m) (fun _ n _ => r - (intOf n).toNat)
          case atStart => exact ⟨0, by omega, rfl, rfl, _, rfl⟩
          case round =>
            obtain ⟨k, hk, rfl, rfl, m, rfl⟩ := hrel
            obtain ⟨hb0, hb1⟩ := pw_bound 11 a (by omega) k
            have p0 : 0 ≤ pw 11 a k * a := Int.mul_nonneg (by omega) (by omega)
            have p1 : pw 11 a k * a ≤ 47 * 47 := Int.mul_le_mul (by omega) (by omega) (by omega) (by omega)
            have hs := Lib.hid (pw_succ 11 a k)
            by_cases hlt : k < r
            · go_wp2
              go_roundw
              case rel => exact ⟨k + 1, by omega, by go_num, by rw [hs.out], _, rfl⟩
              case measure => simp [intOf]; omega
            · obtain rfl : k = r := by omega
              go_wp2
              go_ret
              exact ⟨ret_int (by rw [HX.out, show ord 1 = 5 from rfl, HR.out]; rfl), m, rfl⟩
        · obtain ⟨r, hr⟩ : ∃ r : Nat, n % 11 = r := ⟨(n % 11).toNat, by omega⟩
          have hr2 : r < 11 := by omega
          have HR := Lib.hid hr; clear hr
          go_enter Tryd.func57, Tryd.ntmps57
          go_wp2_with (first | (go_at_call 32; refine (iel_any _ _ _ (by first | assumption | exact Gr.drewN ‹_› _)).mono ?_; rintro e w1 ⟨rfl, m, rfl⟩) | (go_at_call 72; refine (irem_any _ _ _ (by omega) (by omega) (by omega) (by omega)).mono ?_; rintro e w1 ⟨rfl, rfl⟩))
          rw [HR.out]
          go_wp2
          go_loopw [7, 26] (fun x n wr => ∃ k : Nat, k ≤ r ∧ n = .int .i64 k ∧ x = .int .i64 (pw 23 a k) ∧ ∃ m, wr = w.drewN m) (fun _ n _ => r - (intOf n).toNat)
          case atStart => exact ⟨0, by omega, rfl, rfl, _, rfl⟩
          case round =>
            obtain ⟨k, hk, rfl, rfl, m, rfl⟩ := hrel
            obtain ⟨hb0, hb1⟩ := pw_bound 23 a (by omega) k
            have p0 : 0 ≤ pw 23 a k * a := Int.mul_nonneg (by omega) (by omega)
            have p1 : pw 23 a k * a ≤ 47 * 47 := Int.mul_le_mul (by omega) (by omega) (by omega) (by omega)
            have hs := Lib.hid (pw_succ 23 a k)
            by_cases hlt : k < r
            · go_wp2
              go_roundw
              case rel => exact ⟨k + 1, by omega, by go_num, by rw [hs.out], _, rfl⟩
              case measure => simp [intOf]; omega
            · obtain rfl : k = r := by omega
              go_wp2
              go_ret
              exact ⟨ret_int (by rw [HX.out, show ord 2 = 11 from rfl, HR.out]; rfl), m, rfl⟩
        · obtain ⟨r, hr⟩ : ∃ r : Nat, n % 23 = r := ⟨(n % 23).toNat, by omega⟩
          have hr2 : r < 23 := by omega
          have HR := Lib.hid hr; clear hr
          go_enter Tryd.func57, Tryd.ntmps57
          go_wp2_with (first | (go_at_call 32; refine (iel_any _ _ _ (by first | assumption | exact Gr.drewN ‹_› _)).mono ?_; rintro e w1 ⟨rfl, m, rfl⟩) | (go_at_call 72; refine (irem_any _ _ _ (by omega) (by omega) (by omega) (by omega)).mono ?_; rintro e w1 ⟨rfl, rfl⟩))
          rw [HR.out]
          go_wp2
          go_loopw [7, 26] (fun x n wr => ∃ k : Nat, k ≤ r ∧ n = .int .i64 k ∧ x = .int .i64 (pw 47 a k) ∧ ∃ m, wr = w.drewN m) (fun _ n _ => r - (intOf n).toNat)
          case atStart => exact ⟨0, by omega, rfl, rfl, _, rfl⟩
          case round =>
            obtain ⟨k, hk, rfl, rfl, m, rfl⟩ := hrel
            obtain ⟨hb0, hb1⟩ := pw_bound 47 a (by omega) k
            have p0 : 0 ≤ pw 47 a k * a := Int.mul_nonneg (by omega) (by omega)
            have p1 : pw 47 a k * a ≤ 47 * 47 := Int.mul_le_mul (by omega) (by omega) (by omega) (by omega)
            have hs := Lib.hid (pw_succ 47 a k)
            by_cases hlt : k < r
            · go_wp2
              go_roundw
              case rel => exact ⟨k + 1, by omega, by go_num, by rw [hs.out], _, rfl⟩
              case measure => simp [intOf]; omega
            · obtain rfl : k = r := by omega
              go_wp2
              go_ret
              exact ⟨ret_int (by rw [HX.out, show ord 3 = 23 from rfl, HR.out]; rfl), m, rfl⟩
      · have HX := Lib.hid (gpow_no2 (g := g) (a := a) (fun h : -9999 ≤ n ∧ n ≤ 9999 => h2 h.2))
        go_enter Tryd.func57, Tryd.ntmps57
        go_wp2_with (go_at_call 32; refine (iel_any _ _ _ (by first | assumption | exact Gr.drewN ‹_› _)).mono ?_; rintro e w1 ⟨rfl, m, rfl⟩)
        go_ret
        exact ⟨by rw [HX.out]; rfl, _, rfl⟩
    · have HX := Lib.hid (gpow_no2 (g := g) (a := a) (fun h : -9999 ≤ n ∧ n ≤ 9999 => h1 h.1))
      go_enter Tryd.func57, Tryd.ntmps57
      go_wp2_with (go_at_call 32; refine (iel_any _ _ _ (by first | assumption | exact Gr.drewN ‹_› _)).mono ?_; rintro e w1 ⟨rfl, m, rfl⟩)
      go_ret
      exact ⟨by rw [HX.out]; rfl, _, rfl⟩

theorem iback_any (g n : Int) (w : World) (G : Gr w) : Calls Tryd.prog 83 #[.int .i64 g, .int .i64 n] w fun e w' => e = .returned (.int .i64 (gback g n)) ∧ w = w' := by
  cases hx : exB g n
  · have HX := Lib.hid (gback_no hx)
    go_enter Tryd.func83, Tryd.ntmps83
    go_wp2_with (go_at_call 56; refine (iex_any _ _ _ (by first | assumption | exact Gr.drewN ‹_› _)).mono ?_; rintro e w1 ⟨rfl, rfl⟩)
    go_ret
    exact ⟨by rw [HX.out]; rfl, rfl⟩
  · have HH := Lib.hid (fun (k : Nat) => gback_hit (k := k) hx)
    have HM := Lib.hid (@gback_miss g n)
    obtain ⟨⟨h0, h4⟩, n0, n1⟩ := exB_true.1 hx
    have G' := G
    obtain ⟨c0, c1, c2, c3, c4, c5, c6, c7, c8, c9, c10, c11⟩ := G'
    rcases g_cases h0 h4 with rfl | rfl | rfl | rfl <;> clear h0 h4 <;> simp [ord] at n1
    · go_enter Tryd.func83, Tryd.ntmps83
      go_wp2_with (go_at_call 56; refine (iex_any _ _ _ (by first | assumption | exact Gr.drewN ‹_› _)).mono ?_; rintro e w1 ⟨rfl, rfl⟩)
      go_loop [14] (fun x => ∃ k : Nat, k ≤ 3 ∧ x = .int .i64 k ∧ NoneR 3 n k) (fun x => 3 - (intOf x).toNat)
      case atStart => exact ⟨0, by omega, rfl, NoneR.zero _ _⟩
      case round =>
        obtain ⟨k, hk, rfl, hn⟩ := hrel
        have p0 : 0 ≤ n * (k : Int) := Int.mul_nonneg (by omega) (by omega)
        have p1 : n * (k : Int) ≤ 23 * 23 := Int.mul_le_mul (by omega) (by omega) (by omega) (by omega)
        by_cases hlt : k < 3
        · by_cases he : n * (k : Int) % 3 = 1
          · have HT := Lib.hid (HH.out k hlt hn he)
            have he' : (n * (k : Int) % 3 == 1) = true := by simpa using he
            clear he hn
            go_wp2
            go_ret
            exact ⟨ret_int HT.out.symm, rfl⟩
          · have hne : (n * (k : Int) % 3 == 1) = false := by simpa using he
            have hn' := hn.succ he
            clear hn he
            go_wp2
            go_round
            case rel => exact ⟨k + 1, by omega, by go_num, hn'⟩
            case measure => simp [intOf]; omega
        · obtain rfl : k = 3 := by omega
          have HF := Lib.hid (HM.out hn)
          clear hn
          go_wp2
          go_ret
          exact ⟨ret_int HF.out.symm, rfl⟩
    · go_enter Tryd.func83, Tryd.ntmps83
      go_wp2_with (go_at_call 56; refine (iex_any _ _ _ (by first | assumption | exact Gr.drewN ‹_› _)).mono ?_; rintro e w1 ⟨rfl, rfl⟩)
      go_loop [14] (fun x => ∃ k : Nat, k ≤ 5 ∧ x = .int .i64 k ∧ NoneR 5 n k) (fun x => 5 - (intOf x).toNat)
      case atStart => exact ⟨0, by omega, rfl, NoneR.zero _ _⟩
      case round =>
        obtain ⟨k, hk, rfl, hn⟩ := hrel
        have p0 : 0 ≤ n * (k : Int) := Int.mul_nonneg (by omega) (by omega)
        have p1 : n * (k : Int) ≤ 23 * 23 := Int.mul_le_mul (by omega) (by omega) (by omega) (by omega)
        by_cases hlt : k < 5
        · by_cases he : n * (k : Int) % 5 = 1
          · have HT := Lib.hid (HH.out k hlt hn he)
            have he' : (n * (k : Int) % 5 == 1) = true := by simpa using he
            clear he hn
            go_wp2
            go_ret
            exact ⟨ret_int HT.out.symm, rfl⟩
          · have hne : (n * (k : Int) % 5 == 1) = false := by simpa using he
            have hn' := hn.succ he
            clear hn he
            go_wp2
            go_round
            case rel => exact ⟨k + 1, by omega, by go_num, hn'⟩
            case measure => simp [intOf]; omega
        · obtain rfl : k = 5 := by omega
          have HF := Lib.hid (HM.out hn)
          clear hn
          go_wp2
          go_ret
          exact ⟨ret_int HF.out.symm, rfl⟩
    · go_enter Tryd.func83, Tryd.ntmps83
      go_wp2_with (go_at_call 56; refine (iex_any _ _ _ (by first | assumption | exact Gr.drewN ‹_› _)).mono ?_; rintro e w1 ⟨rfl, rfl⟩)
      go_loop [14] (fun x => ∃ k : Nat, k ≤ 11 ∧ x = .int .i64 k ∧ NoneR 11 n k) (fun x => 11 - (intOf x).toNat)
      case atStart => exact ⟨0, by omega, rfl, NoneR.zero _ _⟩
      case round =>
        obtain ⟨k, hk, rfl, hn⟩ := hrel
        have p0 : 0 ≤ n * (k : Int) := Int.mul_nonneg (by omega) (by omega)
        have p1 : n * (k : Int) ≤ 23 * 23 := Int.mul_le_mul (by omega) (by omega) (by omega) (by omega)
        by_cases hlt : k < 11
        · by_cases he : n * (k : Int) % 11 = 1
          · have HT := Lib.hid (HH.out k hlt hn he)
            have he' : (n * (k : Int) % 11 == 1) = true := by simpa using he
            clear he hn
            go_wp2
            go_ret
            exact ⟨ret_int HT.out.symm, rfl⟩
          · have hne : (n * (k : Int) % 11 == 1) = false := by simpa using he
            have hn' := hn.succ he
            clear hn he
            go_wp2
            go_round
            case rel => exact ⟨k + 1, by omega, by go_num, hn'⟩
            case measure => simp [intOf]; omega
        · obtain rfl : k = 11 := by omega
          have HF := Lib.hid (HM.out hn)
          clear hn
          go_wp2
          go_ret
          exact ⟨ret_int HF.out.symm, rfl⟩
    · go_enter Tryd.func83, Tryd.ntmps83
      go_wp2_with (go_at_call 56; refine (iex_any _ _ _ (by first | assumption | exact Gr.drewN ‹_› _)).mono ?_; rintro e w1 ⟨rfl, rfl⟩)
      go_loop [14] (fun x => ∃ k : Nat, k ≤ 23 ∧ x = .int .i64 k ∧ NoneR 23 n k) (fun x => 23 - (intOf x).toNat)
      case atStart => exact ⟨0, by omega, rfl, NoneR.zero _ _⟩
      case round =>
        obtain ⟨k, hk, rfl, hn⟩ := hrel
        have p0 : 0 ≤ n * (k : Int) := Int.mul_nonneg (by omega) (by omega)
        have p1 : n * (k : Int) ≤ 23 * 23 := Int.mul_le_mul (by omega) (by omega) (by omega) (by omega)
        by_cases hlt : k < 23
        · by_cases he : n * (k : Int) % 23 = 1
          · have HT := Lib.hid (HH.out k hlt hn he)
            have he' : (n * (k : Int) % 23 == 1) = true := by simpa using he
            clear he hn
            go_wp2
            go_ret
            exact ⟨ret_int HT.out.symm, rfl⟩
          · have hne : (n * (k : Int) % 23 == 1) = false := by simpa using he
            have hn' := hn.succ he
            clear hn he
            go_wp2
            go_round
            case rel => exact ⟨k + 1, by omega, by go_num, hn'⟩
            case measure => simp [intOf]; omega
        · obtain rfl : k = 23 := by omega
          have HF := Lib.hid (HM.out hn)
          clear hn
          go_wp2
          go_ret
          exact ⟨ret_int HF.out.symm, rfl⟩

end Go.Proofs.YtiinifcepcaonaaDoor

/- Contracts of spec's numbers: remainders, powers, elements, exponents, logarithms, inverses. -/
namespace Go.Proofs.YtiinifcepcaonaaDoor
open Go.RowKit

/-- Two calls, one behind the other, each of which leaves all that it found. -/
theorem Below.on {a b c : World} (h : Below a.heap.size a b) (k : Below b.heap.size b c) : Below a.heap.size a c := h.trans (k.mono h.size)

theorem smod_any (n q : Int) (w : World) (h1 : -9999 ≤ n) (h2 : n ≤ 9999) (q1 : 1 ≤ q) (q2 : q ≤ 100) : Calls Tryd.prog 64 #[.int .i64 n, .int .i64 q] w fun e w' => e = .returned (.int .i64 (n % q)) ∧ w = w' := by
  obtain ⟨b1, b2⟩ := tmod_bd n q (by omega)
  have HR := Lib.hid (rem_eq n q)
  have hq : (q == 0) = false := by simp; omega
  by_cases hn : 0 ≤ n
  · have HT := Lib.hid (Int.tmod_eq_emod_of_nonneg (b := q) hn)
    have k1 := Int.emod_nonneg n (show q ≠ 0 by omega)
    have k2 := Int.emod_lt_of_pos n (show 0 < q by omega)
    go_enter Tryd.func64, Tryd.ntmps64
    go_wp2
    go_ret
    exact ⟨ret_int (by have := HR.out; rw [HT.out] at this; exact this), rfl⟩
  · go_enter Tryd.func64, Tryd.ntmps64
    go_wp2
    go_ret
    exact ⟨ret_int (by have := HR.out; rwa [Int.add_emod_right] at this), rfl⟩

theorem spw_any (p a n : Int) (w : World) (p1 : 1 < p) (p2 : p ≤ 100) (a0 : 0 ≤ a) (a1 : a ≤ 100) (n0 : 0 ≤ n) (n1 : n ≤ 10000) : Calls Tryd.prog 74 #[.int .i64 p, .int .i64 a, .int .i64 n] w fun e w' => e = .returned (.int .i64 (pw p a n.toNat)) ∧ w = w' := by
  obtain ⟨r, rfl⟩ := Int.eq_ofNat_of_zero_le n0
  rw [Int.toNat_natCast]
  have hp : (p == 0) = false := by simp; omega
  go_enter Tryd.func74, Tryd.ntmps74
  go_wp2
  go_loop [7, 8] (fun x n => ∃ k : Nat, k ≤ r ∧ n = .int .i64 k ∧ x = .int .i64 (pw p a k)) (fun _ n => r - (intOf n).toNat)
  case atStart => exact ⟨0, by omega, rfl, rfl⟩
  case round =>
    obtain ⟨k, hk, rfl, rfl⟩ := hrel
    obtain ⟨hb0, hb1⟩ := pw_bound p a (by omega) k
    have q0 : 0 ≤ pw p a k * a := Int.mul_nonneg (by omega) (by omega)
    have q1 : pw p a k * a ≤ 100 * 100 := Int.mul_le_mul (by omega) (by omega) (by omega) (by omega)
    have hs := Lib.hid (pw_succ p a k)
    by_cases hlt : k < r
    · go_wp2
      go_round
      case rel => exact ⟨k + 1, by omega, by go_num, by rw [hs.out]⟩
      case measure => simp [intOf]; omega
    · obtain rfl : k = r := by omega
      go_wp2
      go_ret
      exact ⟨rfl, rfl⟩

theorem stms_any (g a b : Int) (w : World) (h0 : 0 ≤ g) (h4 : g < 4) (a0 : 0 ≤ a) (a1 : a ≤ 100) (b0 : 0 ≤ b) (b1 : b ≤ 100) : Calls Tryd.prog 78 #[.int .i64 g, .int .i64 a, .int .i64 b] w fun e w' => e = .returned (.int .i64 (a * b % prm g)) ∧ Below w.heap.size w w' := by
  obtain ⟨p1, p2⟩ := prm_bd h0 h4
  have hp : (prm g == 0) = false := by simp; omega
  have q0 : 0 ≤ a * b := Int.mul_nonneg (by omega) (by omega)
  have q1 : a * b ≤ 100 * 100 := Int.mul_le_mul (by omega) (by omega) (by omega) (by omega)
  go_enter Tryd.func78, Tryd.ntmps78
  go_wp2_with (go_at_call 73; refine (sprm_any _ _).mono ?_; rintro e w1 ⟨rfl, hb⟩)
  go_ret
  exact ⟨rfl, hb⟩

theorem spow_any (g a n : Int) (w : World) (h0 : 0 ≤ g) (h4 : g < 4) (a0 : 0 ≤ a) (a1 : a ≤ 100) (n0 : -9999 ≤ n) (n1 : n ≤ 9999) : Calls Tryd.prog 76 #[.int .i64 g, .int .i64 a, .int .i64 n] w fun e w' => e = .returned (.int .i64 (pw (prm g) a (n % ord g).toNat)) ∧ Below w.heap.size w w' := by
  obtain ⟨p1, p2⟩ := prm_bd h0 h4
  obtain ⟨q1, q2⟩ := ord_bd h0 h4
  have k1 := Int.emod_nonneg n (show ord g ≠ 0 by omega)
  have k2 := Int.emod_lt_of_pos n (show 0 < ord g by omega)
  go_enter Tryd.func76, Tryd.ntmps76
  go_wp2_with fail
  refine (sprm_any _ _).mono ?_
  rintro e w1 ⟨rfl, hb1⟩
  go_wp2_with fail
  refine (sord_any _ _).mono ?_
  rintro e w2 ⟨rfl, hb2⟩
  go_wp2_with fail
  refine (smod_any _ _ _ (by omega) (by omega) (by omega) (by omega)).mono ?_
  rintro e w3 ⟨rfl, rfl⟩
  go_wp2_with fail
  refine (spw_any _ _ _ _ (by omega) (by omega) (by omega) (by omega) (by omega) (by omega)).mono ?_
  rintro e w3 ⟨rfl, rfl⟩
  go_wp2
  go_ret
  exact ⟨rfl, Below.on hb1 hb2⟩

theorem sel_any (g a : Int) (w : World) : Calls Tryd.prog 58 #[.int .i64 g, .int .i64 a] w fun e w' => e = .returned (.bool (elB g a)) ∧ Below w.heap.size w w' := by
  by_cases hg : 0 ≤ g ∧ g < 4
  · obtain ⟨h0, h4⟩ := hg
    have hd : (decide (0 ≤ g) && decide (g ≤ 3)) = true := by simp; omega
    have hd1 : decide (0 ≤ g) = true := by simp; omega
    have hd2 : decide (g ≤ 3) = true := by simp; omega
    obtain ⟨p1, p2⟩ := prm_bd h0 h4
    obtain ⟨q1, q2⟩ := ord_bd h0 h4
    by_cases ha : 1 ≤ a ∧ a < prm g
    · obtain ⟨a1, a2⟩ := ha
      have hr : (decide (1 ≤ a) && decide (a ≤ prm g - 1)) = true := by simp; omega
      have hr1 : decide (1 ≤ a) = true := by simp; omega
      have hr2 : decide (a ≤ prm g - 1) = true := by simp; omega
      have HX := Lib.hid (elB_pow h0 h4 a1 a2)
      go_enter Tryd.func58, Tryd.ntmps58
      go_wp2_with fail
      refine (l1In_any _ _ _ _).mono ?_
      rintro e w1 ⟨rfl, rfl⟩
      go_wp2_with fail
      refine (sprm_any _ _).mono ?_
      rintro e w1 ⟨rfl, hb1⟩
      go_wp2_with fail
      refine (l1In_any _ _ _ _).mono ?_
      rintro e w2 ⟨rfl, rfl⟩
      go_wp2_with fail
      refine (sprm_any _ _).mono ?_
      rintro e w2 ⟨rfl, hb2⟩
      go_wp2_with fail
      refine (sord_any _ _).mono ?_
      rintro e w3 ⟨rfl, hb3⟩
      go_wp2_with fail
      refine (spw_any _ _ _ _ (by omega) (by omega) (by omega) (by omega) (by omega) (by omega)).mono ?_
      rintro e w4 ⟨rfl, rfl⟩
      go_wp2
      go_ret
      exact ⟨ret_bool HX.out.symm, Below.on hb1 (Below.on hb2 hb3)⟩
    · have hr : (decide (1 ≤ a) && decide (a ≤ prm g - 1)) = false := by simp; omega
      have HX := Lib.hid (elB_out ha)
      go_enter Tryd.func58, Tryd.ntmps58
      go_wp2_with fail
      refine (l1In_any _ _ _ _).mono ?_
      rintro e w1 ⟨rfl, rfl⟩
      go_wp2_with fail
      refine (sprm_any _ _).mono ?_
      rintro e w1 ⟨rfl, hb1⟩
      go_wp2_with fail
      refine (l1In_any _ _ _ _).mono ?_
      rintro e w2 ⟨rfl, rfl⟩
      go_wp2
      go_ret
      exact ⟨by rw [HX.out]; rfl, hb1⟩
  · have hd : (decide (0 ≤ g) && decide (g ≤ 3)) = false := by simp; omega
    have HX := Lib.hid (elB_none hg a)
    go_enter Tryd.func58, Tryd.ntmps58
    go_wp2_with fail
    refine (l1In_any _ _ _ _).mono ?_
    rintro e w1 ⟨rfl, rfl⟩
    go_wp2
    go_ret
    exact ⟨by rw [HX.out]; rfl, Below.refl _ _⟩

theorem sex_any (g n : Int) (w : World) : Calls Tryd.prog 82 #[.int .i64 g, .int .i64 n] w fun e w' => e = .returned (.bool (exB g n)) ∧ Below w.heap.size w w' := by
  by_cases hg : 0 ≤ g ∧ g < 4
  · have HX := Lib.hid (show exB g n = (decide (0 ≤ n) && decide (n ≤ ord g - 1)) by unfold exB; rw [gok_true.2 hg, Bool.true_and]; congr 1; simp; omega)
    obtain ⟨h0, h4⟩ := hg
    have hd : (decide (0 ≤ g) && decide (g ≤ 3)) = true := by simp; omega
    have hd1 : decide (0 ≤ g) = true := by simp; omega
    have hd2 : decide (g ≤ 3) = true := by simp; omega
    obtain ⟨q1, q2⟩ := ord_bd h0 h4
    go_enter Tryd.func82, Tryd.ntmps82
    go_wp2_with fail
    refine (l1In_any _ _ _ _).mono ?_
    rintro e w1 ⟨rfl, rfl⟩
    go_wp2_with fail
    refine (sord_any _ _).mono ?_
    rintro e w1 ⟨rfl, hb1⟩
    go_wp2_with fail
    refine (l1In_any _ _ _ _).mono ?_
    rintro e w2 ⟨rfl, rfl⟩
    go_wp2
    go_ret
    exact ⟨ret_bool HX.out.symm, hb1⟩
  · have hd : (decide (0 ≤ g) && decide (g ≤ 3)) = false := by simp; omega
    have HX := Lib.hid (exB_none hg n)
    go_enter Tryd.func82, Tryd.ntmps82
    go_wp2_with fail
    refine (l1In_any _ _ _ _).mono ?_
    rintro e w1 ⟨rfl, rfl⟩
    go_wp2
    go_ret
    exact ⟨by rw [HX.out]; rfl, Below.refl _ _⟩

end Go.Proofs.YtiinifcepcaonaaDoor

/- Contracts of spec's products, powers, logarithms and inverses. -/
namespace Go.Proofs.YtiinifcepcaonaaDoor
open Go.RowKit

theorem sback_any (g n : Int) (w : World) : Calls Tryd.prog 65 #[.int .i64 g, .int .i64 n] w fun e w' => e = .returned (.int .i64 (gback g n)) ∧ Below w.heap.size w w' := by
  cases hx : exB g n
  · have HX := Lib.hid (gback_no hx)
    go_enter Tryd.func65, Tryd.ntmps65
    go_wp2_with fail
    refine (sex_any _ _ _).mono ?_
    rintro e w1 ⟨rfl, hb1⟩
    go_wp2
    go_ret
    exact ⟨by rw [HX.out]; rfl, hb1⟩
  · by_cases h1 : n = 0
    · subst h1
      have HX := Lib.hid (back_zero g)
      go_enter Tryd.func65, Tryd.ntmps65
      go_wp2_with fail
      refine (sex_any _ _ _).mono ?_
      rintro e w1 ⟨rfl, hb1⟩
      go_wp2
      go_ret
      exact ⟨by rw [HX.out]; rfl, hb1⟩
    · have HX := Lib.hid (gback_pow hx h1)
      obtain ⟨⟨h0, h4⟩, n0, n1⟩ := exB_true.1 hx
      obtain ⟨q1, q2⟩ := ord_bd h0 h4
      have hz : (n == 0) = false := by simpa using h1
      go_enter Tryd.func65, Tryd.ntmps65
      go_wp2_with fail
      refine (sex_any _ _ _).mono ?_
      rintro e w1 ⟨rfl, hb1⟩
      go_wp2_with fail
      refine (sord_any _ _).mono ?_
      rintro e w2 ⟨rfl, hb2⟩
      go_wp2_with fail
      refine (sord_any _ _).mono ?_
      rintro e w3 ⟨rfl, hb3⟩
      go_wp2_with fail
      refine (spw_any _ _ _ _ (by omega) (by omega) (by omega) (by omega) (by omega) (by omega)).mono ?_
      rintro e w4 ⟨rfl, rfl⟩
      go_wp2
      go_ret
      exact ⟨ret_int HX.out.symm, Below.on hb1 (Below.on hb2 hb3)⟩

theorem slog_any (g b a : Int) (w : World) : Calls Tryd.prog 88 #[.int .i64 g, .int .i64 b, .int .i64 a] w fun e w' => e = .returned (.int .i64 (glog g b a)) ∧ Below w.heap.size w w' := by
  cases hb : elB g b
  · have HX := Lib.hid (glog_no1 (a := a) hb)
    go_enter Tryd.func88, Tryd.ntmps88
    go_wp2_with fail
    refine (sel_any _ _ _).mono ?_
    rintro e w1 ⟨rfl, hb1⟩
    go_wp2
    go_ret
    exact ⟨by rw [HX.out]; rfl, hb1⟩
  · cases ha : elB g a
    · have HX := Lib.hid (glog_no2 (b := b) ha)
      go_enter Tryd.func88, Tryd.ntmps88
      go_wp2_with fail
      refine (sel_any _ _ _).mono ?_
      rintro e w1 ⟨rfl, hb1⟩
      go_wp2_with fail
      refine (sel_any _ _ _).mono ?_
      rintro e w2 ⟨rfl, hb2⟩
      go_wp2
      go_ret
      exact ⟨by rw [HX.out]; rfl, Below.on hb1 hb2⟩
    · by_cases h1 : b = 1
      · subst h1
        have HX := Lib.hid (glog_no3 (g := g) (a := a))
        go_enter Tryd.func88, Tryd.ntmps88
        go_wp2_with fail
        refine (sel_any _ _ _).mono ?_
        rintro e w1 ⟨rfl, hb1⟩
        go_wp2_with fail
        refine (sel_any _ _ _).mono ?_
        rintro e w2 ⟨rfl, hb2⟩
        go_wp2
        go_ret
        exact ⟨by rw [HX.out]; rfl, Below.on hb1 hb2⟩
      · have h1b : (b == 1) = false := by simpa using h1
        have HH := Lib.hid (fun (k : Nat) => glog_hit (k := k) hb ha h1)
        have HF := Lib.hid (fun (k : Nat) => glog_first (k := k) hb ha h1)
        obtain ⟨l0, l1, l2⟩ := glog_spec hb ha h1
        have HL := Lib.hid l2; clear l2 h1
        obtain ⟨q, hq⟩ : ∃ q : Nat, glog g b a = q := ⟨(glog g b a).toNat, by omega⟩
        have hq1 : (q : Int) < ord g := by omega
        have HQ := Lib.hid hq; clear hq l0 l1
        obtain ⟨h0, h4⟩ := elB_group hb
        obtain ⟨q1, q2⟩ := ord_bd h0 h4
        obtain ⟨b1, _, b2⟩ := elB_bound hb
        go_enter Tryd.func88, Tryd.ntmps88
        go_wp2_with fail
        refine (sel_any _ _ _).mono ?_
        rintro e w1 ⟨rfl, hb1⟩
        go_wp2_with fail
        refine (sel_any _ _ _).mono ?_
        rintro e w2 ⟨rfl, hb2⟩
        go_wp2
        go_loopw [7] (fun x wr => ∃ k : Nat, k ≤ q ∧ x = .int .i64 k ∧ NoneB (prm g) b a k ∧ Below w.heap.size w wr) (fun x _ => q - (intOf x).toNat)
        case atStart => exact ⟨0, by omega, rfl, NoneB.zero _ _ _, Below.on hb1 hb2⟩
        case round =>
          obtain ⟨k, hk, rfl, hn, hbr⟩ := hrel
          have HK := Lib.hid (show ((k : Int) % ord g).toNat = k by rw [Int.emod_eq_of_lt (by omega) (by omega)]; rfl)
          go_wp2_with fail
          refine (spow_any _ _ _ _ (by omega) (by omega) (by omega) (by omega) (by omega) (by omega)).mono ?_
          rintro e w3 ⟨rfl, hb3⟩
          rw [HK.out]
          by_cases he : pw (prm g) b k = a
          · have HT := Lib.hid (HH.out k (by omega) hn he)
            have he' : (pw (prm g) b k != a) = false := by simpa using he
            clear he hn
            go_wp2
            go_ret
            exact ⟨ret_int HT.out.symm, hbr.trans (hb3.mono hbr.size)⟩
          · have hne : (pw (prm g) b k != a) = true := by simpa using he
            have hn' := hn.succ he
            have hlt : ((k : Int) + 1 ≤ q) := by have := HF.out (k + 1) hn'; rw [HQ.out] at this; omega
            clear hn he
            go_wp2
            go_roundw
            case rel => exact ⟨k + 1, by omega, by go_num, hn', hbr.trans (hb3.mono hbr.size)⟩
            case measure => simp [intOf]; omega

end Go.Proofs.YtiinifcepcaonaaDoor

/- Lists of numbers: what a slice of integers holds; hasInt, sameInts, eqIntS; ElementsOf, impl's and spec's. -/
namespace Go.Proofs.YtiinifcepcaonaaDoor
open Go.RowKit

/-- The slice v holds the numbers xs. -/
def Ints (w : World) (v : Value) (xs : List Int) : Prop :=
  (v = .slice none 0 0 ∧ xs = []) ∨ ∃ g cap, v = .slice (some ⟨g, 0, none⟩) xs.length cap ∧ xs.length ≤ maxLen ∧ g < w.heap.size ∧ ∀ j, j < xs.length → w.cell? ⟨g, j, none⟩ = some (.int .i64 (nth xs j))

theorem Ints.below {w w' : World} {v : Value} {xs : List Int} (h : Ints w v xs) (hb : Below w.heap.size w w') : Ints w' v xs := by
  rcases h with h | ⟨g, cap, h1, h2, h3, h4⟩
  · exact .inl h
  · exact .inr ⟨g, cap, h1, h2, Nat.lt_of_lt_of_le h3 hb.size, fun j hj => (hb.cell (p := ⟨g, j, none⟩) h3).trans (h4 j hj)⟩

/-- The same slice, owned from block B on. -/
abbrev Own (w : World) (B : Nat) (v : Value) (xs : List Int) : Prop := w.ownsRow B 3 1 v xs.length (xs.map (Value.int .i64))

theorem Ints.of_own {w : World} {B : Nat} {v : Value} {xs : List Int} (h : Own w B v xs) (hl : xs.length ≤ maxLen) : Ints w v xs := by
  have hc := @World.ownsRow.cells _ _ _ _ _ _ _ h
  have hlt := h.lt
  rcases h.2 with ⟨rfl, hn⟩ | ⟨g, cap, cur, rfl, _, _, _, _, _, _⟩
  · exact .inl ⟨rfl, List.length_eq_zero_iff.1 hn⟩
  · refine .inr ⟨g, cap, rfl, hl, (hlt g rfl).2, fun j hj => ?_⟩
    have hadd : (⟨g, 0, none⟩ : Addr).add j = ⟨g, j, none⟩ := by unfold Addr.add; split <;> simp_all
    rw [← hadd]
    refine hc rfl j _ ?_
    simp [List.getElem?_map, List.getElem?_eq_getElem hj, nth_get hj]

theorem own_below {w w' : World} {B : Nat} {v : Value} {xs : List Int} (h : Own w B v xs) (hb : Below w.heap.size w w') : Own w' B v xs := by
  have hg : w.grownBy w' none := ⟨hb.os, hb.tape, hb.output, hb.size, fun k hk _ => hb.block k hk⟩
  exact h.kept hg (by cases hv : v.ownBlock <;> simp)

theorem own_mono {w : World} {B B' : Nat} {v : Value} {xs : List Int} (h : Own w B v xs) (hB : B' ≤ B) : Own w B' v xs := by
  obtain ⟨h1, h2⟩ := h
  refine ⟨h1, ?_⟩
  rcases h2 with h2 | ⟨g, cap, cur, hv, hg, r⟩
  · exact .inl h2
  · exact .inr ⟨g, cap, cur, hv, by omega, r⟩

theorem infoInt : (Tryd.prog.info? 3).map (fun i => (i.zero, i.size, i.bytes)) = some (some (.int .i64 0), 1, 8) := by kernel_rfl

end Go.Proofs.YtiinifcepcaonaaDoor

/- hasInt and sameInts. -/
namespace Go.Proofs.YtiinifcepcaonaaDoor
open Go.RowKit

theorem has_any (v : Value) (xs : List Int) (n : Int) (w : World) (h : Ints w v xs) : Calls Tryd.prog 33 #[v, .int .i64 n] w fun e w' => e = .returned (.bool (hasB xs n)) ∧ w = w' := by
  rcases h with ⟨rfl, rfl⟩ | ⟨g, cap, rfl, hl, hg, hc⟩
  · go_enter Tryd.func33, Tryd.ntmps33
    go_wp2
    go_loop [5] (fun i => i = .int .i64 0) (fun _ => 0)
    case atStart => rfl
    case round =>
      subst hrel
      go_wp2
      go_ret
      exact ⟨rfl, rfl⟩
  · unfold maxLen at hl
    have HC := Lib.hid hc; clear hc
    go_enter Tryd.func33, Tryd.ntmps33
    go_wp2
    go_loop [5] (fun i => ∃ k : Nat, k ≤ xs.length ∧ i = .int .i64 k ∧ NotIn xs n k) (fun i => xs.length - (intOf i).toNat)
    case atStart => exact ⟨0, by omega, rfl, NotIn.zero _ _⟩
    case round =>
      obtain ⟨k, hk, rfl, hn⟩ := hrel
      by_cases hlt : k < xs.length
      · have hck := HC.out k hlt
        by_cases he : nth xs k = n
        · have HT := Lib.hid (has_yes hlt he)
          have hq : (nth xs k == n) = true := by simpa using he
          clear he
          go_wp2
          go_ret
          exact ⟨by rw [HT.out]; rfl, rfl⟩
        · have hn' := hn.succ he
          have hq : (nth xs k == n) = false := by simpa using he
          clear he hn
          go_wp2
          go_round
          case rel => exact ⟨k + 1, by omega, by go_num, hn'⟩
          case measure => simp [intOf]; omega
      · obtain rfl : k = xs.length := by omega
        have HT := Lib.hid (has_no hn)
        clear hn
        go_wp2
        go_ret
        exact ⟨by rw [HT.out]; rfl, rfl⟩

theorem same_any (v u : Value) (xs ys : List Int) (w : World) (h : Ints w v xs) (h' : Ints w u ys) : Calls Tryd.prog 31 #[v, u] w fun e w' => e = .returned (.bool (sameB xs ys)) ∧ ∃ m, w' = w.drewN m := by
  by_cases hlen : xs.length = ys.length
  · rcases h with ⟨rfl, rfl⟩ | ⟨g, cap, rfl, hl, hg, hc⟩
    · obtain rfl : ys = [] := List.length_eq_zero_iff.1 hlen.symm
      obtain ⟨a, c, rfl⟩ : ∃ a c, u = .slice a 0 c := by
        rcases h' with ⟨rfl, _⟩ | ⟨g, cap, rfl, _⟩
        · exact ⟨_, _, rfl⟩
        · exact ⟨_, _, rfl⟩
      clear h' hlen
      go_enter Tryd.func31, Tryd.ntmps31
      go_wp2
      go_loop [5] (fun i => i = .int .i64 0) (fun _ => 0)
      case atStart => rfl
      case round =>
        subst hrel
        go_wp2
        go_ret
        exact ⟨rfl, 0, rfl⟩
    · rcases h' with ⟨rfl, rfl⟩ | ⟨g', cap', rfl, hl', hg', hc'⟩
      · obtain rfl : xs = [] := List.length_eq_zero_iff.1 hlen
        clear hc hl hlen
        go_enter Tryd.func31, Tryd.ntmps31
        go_wp2
        go_loop [5] (fun i => i = .int .i64 0) (fun _ => 0)
        case atStart => rfl
        case round =>
          subst hrel
          go_wp2
          go_ret
          exact ⟨rfl, 0, rfl⟩
      · unfold maxLen at hl hl'
        have HC := Lib.hid hc; clear hc
        have HC' := Lib.hid hc'; clear hc'
        have HY := Lib.hid (@same_yes xs ys hlen)
        have hd : ((xs.length : Int) != (ys.length : Int)) = false := by simp [hlen]
        have HL := Lib.hid hlen; clear hlen
        go_enter Tryd.func31, Tryd.ntmps31
        go_wp2
        go_loopw [5] (fun i wr => ∃ k : Nat, k ≤ xs.length ∧ i = .int .i64 k ∧ SameTo xs ys k ∧ ∃ m, wr = w.drewN m) (fun i _ => xs.length - (intOf i).toNat)
        case atStart => exact ⟨0, by omega, rfl, SameTo.zero _ _, 0, rfl⟩
        case round =>
          obtain ⟨k, hk, rfl, hn, m, rfl⟩ := hrel
          by_cases hlt : k < xs.length
          · have hlt' : k < ys.length := by rw [← HL.out]; exact hlt
            have hck := HC.out k hlt
            have hck' := HC'.out k hlt'
            have hlt1 : (k : Int) < (xs.length : Int) := by omega
            have hlt2 : (k : Int) < (ys.length : Int) := by omega
            by_cases he : nth xs k = nth ys k
            · have hn' := hn.succ he
              have hq : (nth xs k != nth ys k) = false := by simpa using he
              clear he hn
              go_wp2_with fail
              go_quiet (fail)
              go_wp2
              go_roundw
              case rel => exact ⟨k + 1, by omega, by go_num, hn', _, rfl⟩
              case measure => simp [intOf]; omega
            · have HT := Lib.hid (same_no he)
              have hq : (nth xs k != nth ys k) = true := by simpa using he
              clear he hn
              go_wp2_with fail
              go_quiet (fail)
              go_wp2
              go_ret
              exact ⟨by rw [HT.out]; rfl, _, World.drewN_drewN _ _ _⟩
          · obtain rfl : k = xs.length := by omega
            have HT := Lib.hid (HY.out hn)
            clear hn
            go_wp2
            go_ret
            exact ⟨by rw [HT.out]; rfl, _, rfl⟩
  · have HT := Lib.hid (same_len hlen)
    have hd : ((xs.length : Int) != (ys.length : Int)) = true := by rw [bne_iff_ne]; omega
    obtain ⟨a, c, rfl⟩ : ∃ a c, v = .slice a xs.length c := by
      rcases h with ⟨rfl, rfl⟩ | ⟨g, cap, rfl, _⟩
      · exact ⟨_, _, rfl⟩
      · exact ⟨_, _, rfl⟩
    obtain ⟨a', c', rfl⟩ : ∃ a c, u = .slice a ys.length c := by
      rcases h' with ⟨rfl, rfl⟩ | ⟨g, cap, rfl, _⟩
      · exact ⟨_, _, rfl⟩
      · exact ⟨_, _, rfl⟩
    clear h h' hlen
    go_enter Tryd.func31, Tryd.ntmps31
    go_wp2
    go_ret
    exact ⟨by rw [HT.out]; rfl, 0, rfl⟩

end Go.Proofs.YtiinifcepcaonaaDoor

/- eqIntS. -/
namespace Go.Proofs.YtiinifcepcaonaaDoor
open Go.RowKit

theorem eqs_any (v u : Value) (xs ys : List Int) (w : World) (h : Ints w v xs) (h' : Ints w u ys) : Calls Tryd.prog 17 #[v, u] w fun e w' => e = .returned (.bool (sameB xs ys)) ∧ ∃ m, w' = w.drewN m := by
  by_cases hlen : xs.length = ys.length
  · rcases h with ⟨rfl, rfl⟩ | ⟨g, cap, rfl, hl, hg, hc⟩
    · obtain rfl : ys = [] := List.length_eq_zero_iff.1 hlen.symm
      obtain ⟨a, c, rfl⟩ : ∃ a c, u = .slice a 0 c := by
        rcases h' with ⟨rfl, _⟩ | ⟨g, cap, rfl, _⟩
        · exact ⟨_, _, rfl⟩
        · exact ⟨_, _, rfl⟩
      clear h' hlen
      go_enter Tryd.func17, Tryd.ntmps17
      go_wp2
      go_loop [5] (fun i => i = .int .i64 0) (fun _ => 0)
      case atStart => rfl
      case round =>
        subst hrel
        go_wp2
        go_ret
        exact ⟨rfl, 0, rfl⟩
    · rcases h' with ⟨rfl, rfl⟩ | ⟨g', cap', rfl, hl', hg', hc'⟩
      · obtain rfl : xs = [] := List.length_eq_zero_iff.1 hlen
        clear hc hl hlen
        go_enter Tryd.func17, Tryd.ntmps17
        go_wp2
        go_loop [5] (fun i => i = .int .i64 0) (fun _ => 0)
        case atStart => rfl
        case round =>
          subst hrel
          go_wp2
          go_ret
          exact ⟨rfl, 0, rfl⟩
      · unfold maxLen at hl hl'
        have HC := Lib.hid hc; clear hc
        have HC' := Lib.hid hc'; clear hc'
        have HY := Lib.hid (@same_yes xs ys hlen)
        have hd : ((xs.length : Int) != (ys.length : Int)) = false := by simp [hlen]
        have HL := Lib.hid hlen; clear hlen
        go_enter Tryd.func17, Tryd.ntmps17
        go_wp2
        go_loopw [5] (fun i wr => ∃ k : Nat, k ≤ xs.length ∧ i = .int .i64 k ∧ SameTo xs ys k ∧ ∃ m, wr = w.drewN m) (fun i _ => xs.length - (intOf i).toNat)
        case atStart => exact ⟨0, by omega, rfl, SameTo.zero _ _, 0, rfl⟩
        case round =>
          obtain ⟨k, hk, rfl, hn, m, rfl⟩ := hrel
          by_cases hlt : k < xs.length
          · have hlt' : k < ys.length := by rw [← HL.out]; exact hlt
            have hck := HC.out k hlt
            have hck' := HC'.out k hlt'
            have hlt1 : (k : Int) < (xs.length : Int) := by omega
            have hlt2 : (k : Int) < (ys.length : Int) := by omega
            by_cases he : nth xs k = nth ys k
            · have hn' := hn.succ he
              have hq : (nth xs k != nth ys k) = false := by simpa using he
              clear he hn
              go_wp2_with fail
              go_quiet (fail)
              go_wp2
              go_roundw
              case rel => exact ⟨k + 1, by omega, by go_num, hn', _, rfl⟩
              case measure => simp [intOf]; omega
            · have HT := Lib.hid (same_no he)
              have hq : (nth xs k != nth ys k) = true := by simpa using he
              clear he hn
              go_wp2_with fail
              go_quiet (fail)
              go_wp2
              go_ret
              exact ⟨by rw [HT.out]; rfl, _, World.drewN_drewN _ _ _⟩
          · obtain rfl : k = xs.length := by omega
            have HT := Lib.hid (HY.out hn)
            clear hn
            go_wp2
            go_ret
            exact ⟨by rw [HT.out]; rfl, _, rfl⟩
  · have HT := Lib.hid (same_len hlen)
    have hd : ((xs.length : Int) != (ys.length : Int)) = true := by rw [bne_iff_ne]; omega
    obtain ⟨a, c, rfl⟩ : ∃ a c, v = .slice a xs.length c := by
      rcases h with ⟨rfl, rfl⟩ | ⟨g, cap, rfl, _⟩
      · exact ⟨_, _, rfl⟩
      · exact ⟨_, _, rfl⟩
    obtain ⟨a', c', rfl⟩ : ∃ a c, u = .slice a ys.length c := by
      rcases h' with ⟨rfl, rfl⟩ | ⟨g, cap, rfl, _⟩
      · exact ⟨_, _, rfl⟩
      · exact ⟨_, _, rfl⟩
    clear h h' hlen
    go_enter Tryd.func17, Tryd.ntmps17
    go_wp2
    go_ret
    exact ⟨by rw [HT.out]; rfl, 0, rfl⟩

end Go.Proofs.YtiinifcepcaonaaDoor

/- ElementsOf, impl's and spec's: a new slice with the elements in ascending order. -/
namespace Go.Proofs.YtiinifcepcaonaaDoor
open Go.RowKit

theorem Gr.lt {w : World} (h : Gr w) : 0 < w.heap.size := World.block_lt_of_cell? _ _ h.c0
theorem Gr.below {B : Nat} {w w' : World} (h : Gr w) (hb : Below B w w') (hl : 0 < B) : Gr w' := ⟨(hb.cell (p := ⟨0, 0, none⟩) hl).trans h.c0, (hb.cell (p := ⟨0, 1, none⟩) hl).trans h.c1, (hb.cell (p := ⟨0, 2, none⟩) hl).trans h.c2, (hb.cell (p := ⟨0, 3, none⟩) hl).trans h.c3, (hb.cell (p := ⟨0, 4, none⟩) hl).trans h.c4, (hb.cell (p := ⟨0, 5, none⟩) hl).trans h.c5, (hb.cell (p := ⟨0, 6, none⟩) hl).trans h.c6, (hb.cell (p := ⟨0, 7, none⟩) hl).trans h.c7, (hb.cell (p := ⟨0, 8, none⟩) hl).trans h.c8, (hb.cell (p := ⟨0, 9, none⟩) hl).trans h.c9, (hb.cell (p := ⟨0, 10, none⟩) hl).trans h.c10, (hb.cell (p := ⟨0, 11, none⟩) hl).trans h.c11⟩
theorem Gr.on {w w' : World} (h : Gr w) (hb : Below w.heap.size w w') : Gr w' := h.below hb h.lt

theorem own_step {w w3 w4 : World} {v v' : Value} {g : Int} {k : Nat} {o : Obj} (hown : Own w3 w.heap.size v (elsTo g k)) (hb : Below w.heap.size w w3)
    (he : elsTo g ((k + 1 : Nat) : Int) = elsTo g k ++ [(k : Int)])
    (hown' : w4.ownsRow w.heap.size 3 1 v' ((elsTo g k).length + 1) ((elsTo g k).map (Value.int .i64) ++ [.int .i64 k])) (hg : (w3.alloc o).grownBy w4 v.ownBlock) :
    Own w4 w.heap.size v' (elsTo g ((k + 1 : Nat) : Int)) ∧ Below w.heap.size w w4 := by
  refine ⟨by unfold Own; rw [he]; simpa using hown', (hb.alloc hb.size o).grown hg (by simp; have := hb.size; omega) (fun j hj => (hown.lt j hj).1)⟩

end Go.Proofs.YtiinifcepcaonaaDoor

/- spec.ElementsOf: a new slice with the elements in ascending order. -/
namespace Go.Proofs.YtiinifcepcaonaaDoor
open Go.RowKit

theorem own_made (w : World) (T : TypeId) (hT : T = 3) : Own (w.alloc (.cells #[] T)) w.heap.size (.slice (some ⟨w.heap.size, 0, none⟩) 0 0) [] := by
  subst hT
  exact World.ownsRow_made w #[] 0 (Nat.le_refl _) (Nat.zero_le _) rfl

end Go.Proofs.YtiinifcepcaonaaDoor
