/- Plain mathematics of SomeMany: all talks of the group 0 on one or two elements, counted. -/
import Derived.Test.YtacalanlepjljaaDoorPolY
import Derived.Test.YtacalanlepjljaaDoorSmyI
namespace Go.Proofs.YtacalanlepjljaaDoor

def e3 (i : Nat) : Int := nth [1, 2, 4] i
/-- The single talk with these digits is right for the element with the logarithm k. -/
def tokF (k i a t : Nat) : Bool := decide ((i + a * k) % 3 = t)
def linF (m need ask x0 x1 : Nat) : Bool := if m = 1 then decide (x0 = ask) else if need = 1 then decide ((x0 + x1 + ask) % 3 = 0) else decide (x0 = ask) && decide (x1 = ask)
theorem tokF_is : ∀ k i a t : Fin 3, tokB 0 (e3 k.val) (e3 i.val) a.val t.val = tokF k.val i.val a.val t.val := by decide +kernel
theorem linF1 : ∀ ask x0 : Fin 3, linB 0 1 ask.val [(x0.val : Int)] = linF 1 1 ask.val x0.val 0 := by decide +kernel
theorem linF2 : ∀ need : Fin 2, ∀ ask x0 x1 : Fin 3, linB 0 (need.val + 1 : Nat) ask.val [(x0.val : Int), (x1.val : Int)] = linF 2 (need.val + 1) ask.val x0.val x1.val := by decide +kernel
theorem e3_of {a : Int} (h : elB 0 a = true) : ∃ k : Fin 3, a = e3 k.val := by
  have hb := elB_bound h
  have hall : ∀ x : Fin 7, elB 0 x.val = true → ∃ k : Fin 3, (x.val : Int) = e3 k.val := by decide +kernel
  have hp : prm 0 = 7 := rfl
  obtain ⟨k, hk⟩ := hall ⟨a.toNat, by omega⟩ (by show elB 0 ((a.toNat : Nat) : Int) = true; rw [Int.toNat_of_nonneg (by omega)]; exact h)
  exact ⟨k, by rw [← hk]; show a = ((a.toNat : Nat) : Int); omega⟩
theorem els0 : els 0 = [1, 2, 4] := rfl
/-- What the talk with the number c says, asks and answers at place j. -/
def digS (c j : Nat) : Nat := c / 27 ^ j % 3
def digX (c j : Nat) : Nat := c / 27 ^ j / 3 % 3
def digT (c j : Nat) : Nat := c / 27 ^ j / 9 % 3
def codS (c : Nat) (j : Nat) : Int := e3 (digS c j)
def codX (c : Nat) (j : Nat) : Int := (digX c j : Nat)
def codT (c : Nat) (j : Nat) : Int := (digT c j : Nat)
def good (m k0 k1 need ask c : Nat) : Bool := tokF k0 (digS c 0) (digX c 0) (digT c 0) && ((decide (m = 1) || tokF k1 (digS c 1) (digX c 1) (digT c 1)) && linF m need ask (digX c 0) (digX c 1))
/-- How many of the first n talks are right. -/
def cntM (keys : List Int) (need ask : Int) (m : Nat) : Nat → Nat
  | 0 => 0
  | c + 1 => if someB 0 keys need (mapTo (codS c) m) ask (mapTo (codX c) m) (mapTo (codT c) m) then cntM keys need ask m c + 1 else cntM keys need ask m c
theorem cntM_yes {keys : List Int} {need ask : Int} {m c : Nat} (h : someB 0 keys need (mapTo (codS c) m) ask (mapTo (codX c) m) (mapTo (codT c) m) = true) : cntM keys need ask m (c + 1) = cntM keys need ask m c + 1 := by simp [cntM, h]
theorem cntM_no {keys : List Int} {need ask : Int} {m c : Nat} (h : someB 0 keys need (mapTo (codS c) m) ask (mapTo (codX c) m) (mapTo (codT c) m) = false) : cntM keys need ask m (c + 1) = cntM keys need ask m c := by simp [cntM, h]
theorem cntM_le (keys : List Int) (need ask : Int) (m : Nat) : ∀ c, cntM keys need ask m c ≤ c
  | 0 => Nat.le_refl _
  | c + 1 => by
    have := cntM_le keys need ask m c
    cases h : someB 0 keys need (mapTo (codS c) m) ask (mapTo (codX c) m) (mapTo (codT c) m)
    · rw [cntM_no h]; omega
    · rw [cntM_yes h]; omega
def cntG (m k0 k1 need ask : Nat) : Nat → Nat
  | 0 => 0
  | c + 1 => if good m k0 k1 need ask c then cntG m k0 k1 need ask c + 1 else cntG m k0 k1 need ask c
theorem cntG1 : ∀ k0 ask : Fin 3, cntG 1 k0.val 0 1 ask.val 27 = 3 := by decide +kernel
theorem cntG2 : ∀ k0 k1 ask : Fin 3, ∀ need : Fin 2, cntG 2 k0.val k1.val (need.val + 1) ask.val 729 = 3 ^ (3 - need.val) := by decide +kernel
theorem dig_lt (n : Nat) : n % 3 < 3 := Nat.mod_lt _ (by omega)
theorem good1 {keys : List Int} {need ask : Int} (hk : Kys 0 keys need) (ha : exB 0 ask = true) (hl : keys.length = 1) : ∃ k0 ask' : Fin 3, ask = ask'.val ∧ need = 1 ∧ ∀ c, someB 0 keys need (mapTo (codS c) 1) ask (mapTo (codX c) 1) (mapTo (codT c) 1) = good 1 k0.val 0 1 ask'.val c := by
  obtain ⟨k0, h0⟩ := e3_of (allEl_at hk.el (by omega : 0 < keys.length))
  obtain ⟨_, a0, a1⟩ := exB_true.1 ha
  have ho : ord 0 = 3 := rfl
  have d1 := hk.m.d1; have dn := hk.m.dn
  have hn : need = 1 := by omega
  subst hn
  refine ⟨k0, ⟨ask.toNat, by omega⟩, by show ask = ((ask.toNat : Nat) : Int); omega, rfl, fun c => ?_⟩
  have t0 := tokF_is k0 ⟨digS c 0, dig_lt _⟩ ⟨digX c 0, dig_lt _⟩ ⟨digT c 0, dig_lt _⟩
  have l0 := linF1 ⟨ask.toNat, by omega⟩ ⟨digX c 0, dig_lt _⟩
  have ea : ((ask.toNat : Nat) : Int) = ask := by omega
  dsimp only at t0 l0
  rw [ea] at l0
  have tt : toksB 0 keys (mapTo (codS c) 1) (mapTo (codX c) 1) (mapTo (codT c) 1) 1 = tokF k0.val (digS c 0) (digX c 0) (digT c 0) := by
    rw [← t0, ← h0]
    show (tokB 0 (nth keys 0) (nth (mapTo (codS c) 1) 0) (nth (mapTo (codX c) 1) 0) (nth (mapTo (codT c) 1) 0) && true) = _
    rw [Bool.and_true, mapTo_nth _ _ _ (by omega), mapTo_nth _ _ _ (by omega), mapTo_nth _ _ _ (by omega)]
    rfl
  unfold someB
  rw [kysB_true.2 hk, mapTo_len, mapTo_len, mapTo_len, hl, tt, show mapTo (codX c) 1 = [((digX c 0 : Nat) : Int)] from rfl, l0]
  rfl
theorem good2 {keys : List Int} {need ask : Int} (hk : Kys 0 keys need) (ha : exB 0 ask = true) (hl : keys.length = 2) : ∃ k0 k1 ask' : Fin 3, ∃ need' : Fin 2, ask = ask'.val ∧ need = (need'.val + 1 : Nat) ∧ ∀ c, someB 0 keys need (mapTo (codS c) 2) ask (mapTo (codX c) 2) (mapTo (codT c) 2) = good 2 k0.val k1.val (need'.val + 1) ask'.val c := by
  obtain ⟨k0, h0⟩ := e3_of (allEl_at hk.el (by omega : 0 < keys.length))
  obtain ⟨k1, h1⟩ := e3_of (allEl_at hk.el (by omega : 1 < keys.length))
  obtain ⟨_, a0, a1⟩ := exB_true.1 ha
  have ho : ord 0 = 3 := rfl
  have d1 := hk.m.d1; have dn := hk.m.dn
  refine ⟨k0, k1, ⟨ask.toNat, by omega⟩, ⟨(need - 1).toNat, by omega⟩, by show ask = ((ask.toNat : Nat) : Int); omega, by show need = (((need - 1).toNat + 1 : Nat) : Int); omega, fun c => ?_⟩
  have t0 := tokF_is k0 ⟨digS c 0, dig_lt _⟩ ⟨digX c 0, dig_lt _⟩ ⟨digT c 0, dig_lt _⟩
  have t1 := tokF_is k1 ⟨digS c 1, dig_lt _⟩ ⟨digX c 1, dig_lt _⟩ ⟨digT c 1, dig_lt _⟩
  have l0 := linF2 ⟨(need - 1).toNat, by omega⟩ ⟨ask.toNat, by omega⟩ ⟨digX c 0, dig_lt _⟩ ⟨digX c 1, dig_lt _⟩
  have ea : ((ask.toNat : Nat) : Int) = ask := by omega
  have en : (((need - 1).toNat + 1 : Nat) : Int) = need := by omega
  dsimp only at t0 t1 l0
  rw [ea, en] at l0
  have tt : toksB 0 keys (mapTo (codS c) 2) (mapTo (codX c) 2) (mapTo (codT c) 2) 2 = (tokF k0.val (digS c 0) (digX c 0) (digT c 0) && tokF k1.val (digS c 1) (digX c 1) (digT c 1)) := by
    rw [← t0, ← t1, ← h0, ← h1]
    show (tokB 0 (nth keys 0) (nth (mapTo (codS c) 2) 0) (nth (mapTo (codX c) 2) 0) (nth (mapTo (codT c) 2) 0) && (tokB 0 (nth keys 1) (nth (mapTo (codS c) 2) 1) (nth (mapTo (codX c) 2) 1) (nth (mapTo (codT c) 2) 1) && true)) = _
    rw [Bool.and_true, mapTo_nth _ _ _ (by omega), mapTo_nth _ _ _ (by omega), mapTo_nth _ _ _ (by omega), mapTo_nth _ _ _ (by omega), mapTo_nth _ _ _ (by omega), mapTo_nth _ _ _ (by omega)]
    rfl
  unfold someB
  rw [kysB_true.2 hk, mapTo_len, mapTo_len, mapTo_len, hl, tt, show mapTo (codX c) 2 = [((digX c 0 : Nat) : Int), ((digX c 1 : Nat) : Int)] from rfl, l0]
  show (_ && (true && (true && (true && ((tokF k0.val _ _ _ && tokF k1.val _ _ _) && linF 2 _ _ _ _))))) = _
  unfold good
  rw [Bool.true_and, Bool.true_and, Bool.true_and, Bool.true_and, Bool.and_assoc]
  rfl
theorem cnt_same {keys : List Int} {need ask : Int} {m k0 k1 need' ask' : Nat} (h : ∀ c, someB 0 keys need (mapTo (codS c) m) ask (mapTo (codX c) m) (mapTo (codT c) m) = good m k0 k1 need' ask' c) : ∀ n, cntM keys need ask m n = cntG m k0 k1 need' ask' n
  | 0 => rfl
  | n + 1 => by
    have ih := cnt_same h n
    unfold cntM cntG
    rw [h n, ih]
/-- All right talks are counted. -/
theorem many_is {keys : List Int} {need ask : Int} (hk : kysB 0 keys need = true) (ha : exB 0 ask = true) (hl : keys.length ≤ 2) : (cntM keys need ask keys.length (27 ^ keys.length) : Int) = smyM 0 keys need ask := by
  rw [smyM_yes hk ha]
  have k := kysB_true.1 hk
  have h1 := k.m.n1
  have hc : keys.length = 1 ∨ keys.length = 2 := by omega
  rcases hc with e | e
  · obtain ⟨k0, a', _, hn, h⟩ := good1 k ha e
    rw [e, cnt_same h, hn]
    have := cntG1 k0 a'
    show ((cntG 1 k0.val 0 1 a'.val 27 : Nat) : Int) = _
    rw [this]; rfl
  · obtain ⟨k0, k1, a', n', _, hn, h⟩ := good2 k ha e
    rw [e, cnt_same h, hn]
    have := cntG2 k0 k1 a' n'
    show ((cntG 2 k0.val k1.val (n'.val + 1) a'.val 729 : Nat) : Int) = _
    rw [this]
    have hn2 := n'.isLt
    obtain hz | hz : n'.val = 0 ∨ n'.val = 1 := by omega
    · rw [hz]; rfl
    · rw [hz]; rfl
theorem many_big {g : Int} {keys : List Int} {need ask : Int} (hk : kysB g keys need = true) (ha : exB g ask = true) : 3 ≤ smyM g keys need ask ∧ smyM g keys need ask ≤ 78310985281 := by
  rw [smyM_yes hk ha]
  have k := kysB_true.1 hk
  have o := ord_bd k.m.g0 k.m.g4
  have h1 := k.m.n1; have h4 := k.m.n4; have d1 := k.m.d1; have dn := k.m.dn
  obtain ⟨q, hq⟩ : ∃ q : Nat, ord g = q := ⟨(ord g).toNat, by omega⟩
  obtain ⟨e, he⟩ : ∃ e, (2 * (keys.length : Int) - need).toNat = e := ⟨_, rfl⟩
  rw [he, hq]
  have e1 : 1 ≤ e := by omega
  have e7 : e ≤ 7 := by omega
  have q3 : 3 ≤ q := by omega
  have q23 : q ≤ 23 := by omega
  have a1 : 3 ^ 1 ≤ q ^ e := Nat.le_trans (Nat.pow_le_pow_left q3 1) (Nat.pow_le_pow_right (by omega) e1)
  have a2 : q ^ e ≤ 23 ^ 8 := Nat.le_trans (Nat.pow_le_pow_left q23 e) (Nat.pow_le_pow_right (by omega) (by omega))
  have c1 : ((q ^ e : Nat) : Int) = (q : Int) ^ e := by simp
  rw [← c1]
  have b1 : (3 : Nat) ^ 1 = 3 := rfl
  have b2 : (23 : Nat) ^ 8 = 78310985281 := by decide
  omega
end Go.Proofs.YtacalanlepjljaaDoor
