/- Draws: l20Order, l20Graph. -/
import Derived.Test.YtimkmdedoacpfaaDrG
import Derived.Test.YtimkmdedoacpfaaGphS
import Derived.Test.YtimkmdedoacpfaaCapB
namespace Go.Proofs.Ytimkmdedoacpfaa
open Go.RowKit

theorem own_some {w : World} {B : Nat} {v : Value} {xs : List Int} (h : Own w B v xs) (hx : 0 < xs.length) : ∃ g c, v = .slice (some ⟨g, 0, none⟩) xs.length c := by
  rcases id h.2 with ⟨rfl, hn⟩ | ⟨g, cap, cur, rfl, _⟩
  · omega
  · exact ⟨_, _, rfl⟩
theorem Dx.re {w w' : World} {R k : Nat} {Bs : List (Nat × List Value)} {v v2 : Value} {xs ys : List Int} (h : Dx w R Bs [(v, xs)] k w') (ho : Own w' w.heap.size v2 ys) (e : v2.ownBlock = v.ownBlock) : Dx w R Bs [(v2, ys)] k w' :=
  ⟨h.rd, h.gr, h.rl, h.bx, fun x m => (by
    rcases List.mem_cons.1 m with rfl | m
    · exact ho
    · cases m), fun b mb x m q hq => (by
    rcases List.mem_cons.1 m with rfl | m
    · exact h.ap b mb _ (.head _) q (by rw [← e]; exact hq)
    · cases m)⟩
/-- The numbers from 0 on and less than q, in some order. -/
structure PmTo (xs : List Int) (q : Nat) : Prop where
  len : xs.length = q
  bd : ∀ x, x ∈ xs → 0 ≤ x ∧ x < q
  nd : xs.Nodup
theorem PmTo.ins {xs : List Int} {q t : Nat} (h : PmTo xs q) : PmTo (xs.take t ++ (q : Int) :: xs.drop t) (q + 1) := by
  have hp : (xs.take t ++ (q : Int) :: xs.drop t).Perm ((q : Int) :: xs) := by
    have h2 := List.perm_middle (a := (q : Int)) (l₁ := xs.take t) (l₂ := xs.drop t)
    rw [List.take_append_drop] at h2
    exact h2
  refine ⟨by rw [hp.length_eq, List.length_cons, h.len], fun x hx => ?_, hp.nodup_iff.2 (List.nodup_cons.2 ⟨fun hc => by have := h.bd _ hc; omega, h.nd⟩)⟩
  rcases List.mem_cons.1 (hp.mem_iff.1 hx) with rfl | hx
  · omega
  · have := h.bd x hx; omega
theorem PmTo.od {xs : List Int} {m : Nat} (h : PmTo xs m) (h1 : 1 ≤ m) (h5 : m ≤ 5) : Od xs m :=
  ⟨by rw [h.len], by omega, by omega, fun j hj => h.bd _ (nth_mem hj), pair_nth.1 h.nd⟩
theorem PmTo.small {xs : List Int} {m : Nat} (h : PmTo xs m) (h5 : m ≤ 5) : ∀ j, j < xs.length → 0 ≤ nth xs j ∧ nth xs j ≤ 10 := fun j hj => by have := h.bd _ (nth_mem hj); omega
theorem nth_drop {xs : List Int} {t j : Nat} : nth (xs.drop t) j = nth xs (t + j) := by
  unfold nth; rw [List.getD_eq_getElem?_getD, List.getD_eq_getElem?_getD, List.getElem?_drop]
theorem below_app {w1 w3 : World} {o : Obj} (g : (w1.alloc o).grownBy w3 (some w1.heap.size)) : Below w1.heap.size w1 w3 :=
  ⟨g.os, g.tape, g.output, Nat.le_trans (by simp) g.size, fun q hq => (g.block q (by simp; omega) (fun e => by cases e; omega)).trans (Below.heap_alloc w1 _ q hq)⟩
theorem own_cases {w : World} {B : Nat} {v : Value} {xs : List Int} (h : Own w B v xs) : (v = .slice none 0 0 ∧ xs.length = 0) ∨ ∃ g c, v = .slice (some ⟨g, 0, none⟩) xs.length c ∧ B ≤ g ∧ g < w.heap.size := by
  rcases id h.2 with ⟨rfl, hn⟩ | ⟨g, cap, cur, rfl, hB, _⟩
  · exact .inl ⟨rfl, hn⟩
  · exact .inr ⟨_, _, rfl, hB, (h.lt g rfl).2⟩
theorem nth_last {xs : List Int} {y : Int} : nth (xs ++ [y]) xs.length = y := by
  rw [nth_app, if_neg (by omega), if_pos (by omega)]
theorem wpAppInts2 {ops : Array Oper} {rest : List Oper} {o : Oper} {a : Act} {Q : Exit → Act → World → Prop} {w3 : World} {B G c n : Nat} {v : Value} {xs ys : List Int} (hgd : o.guard = none) (s x : Operand)
    (ho : o.op = .call { callee := .builtin .append, args := #[s, x], argTypes := #[22, 22] }) (hs : a.eval s = v) (hown : Own w3 B v xs) (hn : ys.length = n) (hl : xs.length + n < 1000000000) (hB : B ≤ w3.heap.size) (hx : a.eval x = .slice (some ⟨G, 0, none⟩) n c)
    (hc : ∀ j, j < n → w3.cell? ⟨G, j, none⟩ = some (.int .i64 (nth ys j)))
    (h : ∀ v' w4, Own w4 B v' (xs ++ ys) → w3.grownBy w4 v.ownBlock → (v'.ownBlock = v.ownBlock ∨ ∃ k, v'.ownBlock = some k ∧ w3.heap.size ≤ k) → wpList Try.prog ops Q rest (a.put o.dst v') w4) :
    wpList Try.prog ops Q (o :: rest) a w3 := wpAppIntsO (off := 0) hgd s x ho hs hown hn hl hB hx (fun j hj => by rw [Nat.zero_add]; exact hc j hj) h
def OrdDr (R k d : Nat) (m n : Int) (w : World) (e : Ending) (w' : World) : Prop :=
  ∃ v xs k', e = .returned v ∧ Own w' w.heap.size v xs ∧ xs.length ≤ 6 ∧ (∀ j, j < xs.length → 0 ≤ nth xs j ∧ nth xs j ≤ 10) ∧ (n < 1 → Od xs m) ∧ k' ≤ k + d ∧ w.grownBy w' (some R) ∧ Rd w' R k'

def GphDr (R k d : Nat) (m : Int) (w : World) (e : Ending) (w' : World) : Prop :=
  ∃ p v es k', e = .returned (.agg #[.int .i64 p, v]) ∧ Own w' w.heap.size v es ∧ es.length ≤ 30 ∧ (∀ j, j < es.length → 0 ≤ nth es j ∧ nth es j ≤ 200) ∧ (p = m ∨ p = 0) ∧ k' ≤ k + d ∧ w.grownBy w' (some R) ∧ Rd w' R k'
theorem two_ne {w : World} {cs : List Value} : ∀ b, b ∈ [(w.heap.size, cs)] → b.1 ≠ w.heap.size + 1 := fun b m => by
  rcases List.mem_cons.1 m with rfl | m
  · show w.heap.size ≠ w.heap.size + 1; omega
  · cases m
def Sml (es : List Int) : Prop := ∀ j, j < es.length → 0 ≤ nth es j ∧ nth es j ≤ 200
theorem Sml.app {es : List Int} {y : Int} (h : Sml es) (h0 : 0 ≤ y) (h1 : y ≤ 200) : Sml (es ++ [y]) := fun j hj => by
  by_cases e : j < es.length
  · rw [nth_left e]; exact h j e
  · rw [List.length_append] at hj
    simp at hj
    obtain rfl : j = es.length := by omega
    rw [nth_last]; omega
theorem Sml.cons {es : List Int} {y : Int} (h : Sml es) (h0 : 0 ≤ y) (h1 : y ≤ 200) : Sml (y :: es) := fun j hj => by
  match j, hj with
  | 0, _ => exact ⟨h0, h1⟩
  | j + 1, hj => exact h j (by simpa using hj)
/-- A graph under way: its box behind the answer's. -/
def Gz (w : World) (R : Nat) (p : Int) (k n : Nat) (wr : World) : Prop := ∃ ev es k1, Dx w R [(w.heap.size + 1, [.int .i64 p, ev]), (w.heap.size, [.int .i64 0, .slice none 0 0])] [(ev, es)] k1 wr ∧ Sml es ∧ es.length ≤ n ∧ k1 ≤ k + n
/-- The graph as it is, answered. -/
theorem drgph_end {w w' : World} {R k k1 d : Nat} {p : Int} {ev : Value} {es : List Int} (D : Dx w R [(w.heap.size + 1, [.int .i64 p, ev]), (w.heap.size, [.int .i64 0, .slice none 0 0])] [(ev, es)] k1 w') (hs : Sml es) (hl : es.length ≤ 30) (hk : k1 ≤ k + d) :
    GphDr R k d p w (.returned (.agg #[.int .i64 p, ev])) ((w'.setCell ⟨w.heap.size, 0, none⟩ (.int .i64 p)).setCell ⟨w.heap.size, 1, none⟩ ev) := by
  have D1 : Dx w R [(w.heap.size, [.int .i64 0, .slice none 0 0])] [(ev, es)] k1 w' := D.sub (fun b m => by
    rcases List.mem_cons.1 m with rfl | m
    · exact .tail _ (.head _)
    · cases m) (fun x m => m)
  have D2 := (D1.put (fun b m => (by cases m)) 0 (.int .i64 p)).put (fun b m => (by cases m)) 1 ev
  exact ⟨p, ev, es, k1, rfl, D2.ls _ (.head _), hl, hs, .inl rfl, hk, D2.gr, D2.rd⟩

end Go.Proofs.Ytimkmdedoacpfaa
