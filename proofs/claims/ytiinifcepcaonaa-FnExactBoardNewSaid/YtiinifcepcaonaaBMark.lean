/- ExactList, Help, Mark, Stat, in one text. -/
import Derived.Test.YtiinifcepcaonaaBWalk
import Derived.Test.YtiinifcepcaonaaBRd
import Derived.Test.YtiinifcepcaonaaBCl
/- markIntS, heldIntS, and the exact law of ElementsOf, walked. -/
namespace Go.Proofs.Ytiinifcepcaonaa
open Go.RowKit

theorem grown_trans' {w w1 w2 : World} {g : Nat} (h : w.grownBy w1 (some g)) (k : w1.grownBy w2 (some g)) : w.grownBy w2 (some g) :=
  ⟨k.os.trans h.os, k.tape.trans h.tape, k.output.trans h.output, Nat.le_trans h.size k.size, fun i hi hr => (k.block i (Nat.lt_of_lt_of_le hi h.size) hr).trans (h.block i hi hr)⟩

def markTo (xs : List Int) (m : Int) : Nat → List Int
  | 0 => xs
  | k + 1 => (markTo xs m k).set k (m + k)
theorem markTo_len (xs : List Int) (m : Int) : ∀ k, (markTo xs m k).length = xs.length
  | 0 => rfl
  | k + 1 => by unfold markTo; rw [List.length_set]; exact markTo_len xs m k
theorem markTo_nth (xs : List Int) (m : Int) : ∀ k, k ≤ xs.length → ∀ j, j < k → nth (markTo xs m k) j = m + j
  | 0, _, j, hj => by omega
  | k + 1, hk, j, hj => by
    have hl : k < (markTo xs m k).length := by rw [markTo_len]; omega
    unfold markTo nth
    rw [List.getD_eq_getElem?_getD]
    by_cases e : k = j
    · subst e; rw [List.getElem?_set_self hl]; rfl
    · rw [List.getElem?_set_ne e, ← List.getD_eq_getElem?_getD]
      exact markTo_nth xs m k (by omega) j (by omega)

theorem els_max (g : Int) : (els g).length ≤ maxLen := by have := @els_len g; unfold maxLen; omega
theorem mark_max (g m : Int) (k : Nat) : (markTo (els g) m k).length ≤ maxLen := by rw [markTo_len]; exact els_max g
theorem Own.drew {w : World} {B : Nat} {v : Value} {xs : List Int} (h : Own w B v xs) (n : Nat) : Own (w.drewN n) B v xs := h
theorem own_apart {w w' : World} {B B' : Nat} {v u : Value} {xs : List Int} (h : Own w B v xs) (hlt : ∀ k, v.ownBlock = some k → k < B') (hu : ∀ k, u.ownBlock = some k → B' ≤ k) (hg : w.grownBy w' u.ownBlock) : Own w' B v xs :=
  h.kept hg (by
    cases hv : v.ownBlock with
    | none => exact .inl rfl
    | some k => exact .inr (fun e => by have := hlt k hv; have := hu k e.symm; omega))

end Go.Proofs.Ytiinifcepcaonaa

/- laws.szIntS, szIntSS, szClaim, szWords; eqIntSS, eqClaim, eqWords at equal ones. -/
namespace Go.Proofs.Ytiinifcepcaonaa
open Go.RowKit

/-- How many numbers the first k lists have. -/
def cnt (xss : List (List Int)) : Nat → Nat
  | 0 => 0
  | k + 1 => cnt xss k + (row xss k).length
theorem cnt_succ (xss : List (List Int)) (k : Nat) : cnt xss (k + 1) = cnt xss k + (row xss k).length := rfl
theorem cnt_mono (xss : List (List Int)) : ∀ {k n : Nat}, k ≤ n → cnt xss k ≤ cnt xss n
  | k, 0, h => by obtain rfl : k = 0 := by omega
                  exact Nat.le_refl _
  | k, n + 1, h => by
    by_cases e : k = n + 1
    · rw [e]; exact Nat.le_refl _
    · have := cnt_mono xss (show k ≤ n by omega)
      rw [cnt_succ]; omega
def szI (n : Nat) (left : Int) : Int := if left - n < 0 then -1 else left - n
theorem szI_cases (n : Nat) (left : Int) : (szI n left = -1 ∧ left < n) ∨ (szI n left = left - n ∧ (n : Int) ≤ left) := by
  unfold szI
  by_cases h : left - n < 0
  · rw [if_pos h]; exact .inl ⟨rfl, by omega⟩
  · rw [if_neg h]; exact .inr ⟨rfl, by omega⟩

theorem IntSSA.drewN {w : World} {a : Option Addr} {xss : List (List Int)} (h : IntSSA w a xss) (m : Nat) : IntSSA (w.drewN m) a xss := ⟨h.max, h.get⟩
theorem Ints.drewN {w : World} {v : Value} {xs : List Int} (h : Ints w v xs) (m : Nat) : Ints (w.drewN m) v xs := h
end Go.Proofs.Ytiinifcepcaonaa

/- laws.markIntS, markIntSS, markClaim, markWords, heldIntS, heldIntSS, heldWords. -/
namespace Go.Proofs.Ytiinifcepcaonaa
open Go.RowKit

/-- The first k lists marked. -/
def markS (xss : List (List Int)) (m : Int) : Nat → List (List Int)
  | 0 => xss
  | k + 1 => (markS xss m k).set k (markTo (row xss k) (m + cnt xss k) (row xss k).length)
theorem markS_len (xss : List (List Int)) (m : Int) : ∀ k, (markS xss m k).length = xss.length
  | 0 => rfl
  | k + 1 => by unfold markS; rw [List.length_set]; exact markS_len xss m k
theorem markS_rest (xss : List (List Int)) (m : Int) : ∀ k j, k ≤ j → row (markS xss m k) j = row xss j
  | 0, j, _ => rfl
  | k + 1, j, h => by unfold markS; rw [row_set_ne (by omega)]; exact markS_rest xss m k j (by omega)
theorem markS_row (xss : List (List Int)) (m : Int) : ∀ k, k ≤ xss.length → ∀ j, j < k → row (markS xss m k) j = markTo (row xss j) (m + cnt xss j) (row xss j).length
  | 0, _, j, hj => by omega
  | k + 1, hk, j, hj => by
    unfold markS
    by_cases e : k = j
    · subst e; rw [row_set (by rw [markS_len]; omega)]
    · rw [row_set_ne e]; exact markS_row xss m k (by omega) j (by omega)
theorem Outside.alloc {lo hi : Nat} {w w' : World} (o : Obj) (h : Outside lo hi (w.alloc o) w') : Outside lo hi w w' :=
  ⟨h.os, h.tape, h.output, Nat.le_trans (by simp) h.size, fun k hk hr => (h.block k (by simp; omega) hr).trans (Below.heap_alloc w o k hk)⟩
theorem Outside.wider {lo lo' hi hi' : Nat} {w w' : World} (h : Outside lo hi w w') (h1 : lo' ≤ lo) (h2 : hi ≤ hi') : Outside lo' hi' w w' :=
  ⟨h.os, h.tape, h.output, h.size, fun k hk hr => h.block k hk (by omega)⟩
theorem Outside.box {lo hi N : Nat} {w w' : World} {cs : List Value} (h : Outside lo hi w w') (hb : Box w N cs) (hN : hi ≤ N) : Box w' N cs := by
  have hl := hb.lt
  obtain ⟨T, hb⟩ := hb
  exact ⟨T, by rw [h.block N hl (.inr hN)]; exact hb⟩

theorem small {n : Nat} (h : n ≤ 1048576) : n ≤ maxLen := by unfold maxLen; omega
theorem small3 {n : Nat} (h : n ≤ 1000) : n ≤ maxLen := by unfold maxLen; omega
theorem OwnW.lower {w : World} {lo lo' hi : Nat} {sv tv : Value} {ss ts : List Int} (h : OwnW w lo hi sv tv ss ts) (hl : lo' ≤ lo) : OwnW w lo' hi sv tv ss ts := ⟨own_mono h.s hl, own_mono h.t hl, h.apart, h.his, h.hit⟩
theorem OwnW.far {w w' : World} {lo hi lo' hi' : Nat} {sv tv : Value} {ss ts : List Int} (h : Outside lo hi w w') (ho : OwnW w lo' hi' sv tv ss ts) (hB : hi ≤ lo') : OwnW w' lo' hi' sv tv ss ts := ⟨h.own ho.s hB, h.own ho.t hB, ho.apart, ho.his, ho.hit⟩
theorem bne_self (b : Bool) : (b != b) = false := by cases b <;> rfl
end Go.Proofs.Ytiinifcepcaonaa

/- What an exact law's walk knows: boxes, and lists of the call's own in intervals of blocks. -/
namespace Go.Proofs.Ytiinifcepcaonaa
open Go.RowKit

/-- Memory made by a call, in the blocks from lo to hi: a list, two lists apart, a list of lists. -/
inductive Cp where
  | l (lo hi : Nat) (v : Value) (xs : List Int)
  | p (lo hi : Nat) (v u : Value) (xs ys : List Int)
  | s (lo hi : Nat) (v : Value) (us : List Value) (xss : List (List Int))
  | o (lo hi : Nat) (K : World → Prop) (st : ∀ w w' : World, K w → (∀ k, lo ≤ k → k < hi → w'.heap[k]? = w.heap[k]?) → K w')
def Cp.lo : Cp → Nat
  | .l lo _ _ _ => lo
  | .p lo _ _ _ _ _ => lo
  | .s lo _ _ _ _ => lo
  | .o lo _ _ _ => lo
def Cp.hi : Cp → Nat
  | .l _ hi _ _ => hi
  | .p _ hi _ _ _ _ => hi
  | .s _ hi _ _ _ => hi
  | .o _ hi _ _ => hi
theorem Box.out {lo hi N : Nat} {w w' : World} {cs : List Value} (h : Box w N cs) (ho : Outside lo hi w w') (hN : N < lo ∨ hi ≤ N) : Box w' N cs := by
  have hl := h.lt
  obtain ⟨T, h⟩ := h
  exact ⟨T, by rw [ho.block N hl hN]; exact h⟩

theorem all_nil {α : Type} {p : α → Prop} : ∀ x, x ∈ ([] : List α) → p x := fun x m => (by cases m)
theorem all_cons {α : Type} {p : α → Prop} {a : α} {l : List α} (h : p a) (t : ∀ x, x ∈ l → p x) : ∀ x, x ∈ a :: l → p x := fun x m => by
  rcases List.mem_cons.1 m with rfl | m
  · exact h
  · exact t x m
theorem bx3 {w : World} (P R O : List Value) (T1 T2 T3 : TypeId) : Hid (∃ W : World, W = ((w.alloc (.cells P.toArray T1)).alloc (.cells R.toArray T2)).alloc (.cells O.toArray T3) ∧ W.heap.size = w.heap.size + 1 + 1 + 1 ∧
    Below w.heap.size w W ∧ Box W w.heap.size P ∧ Box W (w.heap.size + 1) R ∧ Box W (w.heap.size + 1 + 1) O) := by
  obtain ⟨h1, h2, h3, h4⟩ := boxes3 (w := w) (P := P) (R := R) (O := O) (T1 := T1) (T2 := T2) (T3 := T3) (Below.refl _ _)
  exact Lib.hid ⟨_, rfl, by simp, h4, h1, h2, h3⟩
theorem small20 {n : Nat} (h : n ≤ 1048576) : n ≤ maxLen := by unfold maxLen; omega

end Go.Proofs.Ytiinifcepcaonaa
