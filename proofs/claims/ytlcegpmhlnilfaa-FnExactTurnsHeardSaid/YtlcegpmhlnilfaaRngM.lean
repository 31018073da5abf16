/- impl.OrdersBetween, under way: a row appended inside a fence; what the loop knows. -/
import Derived.Test.YtlcegpmhlnilfaaRngL
import Derived.Test.YtlcegpmhlnilfaaTrnI
namespace Go.Proofs.Ytlcegpmhlnilfaa
open Go.RowKit

/-- append of one row to an owned list of rows, inside a fence. -/
theorem wpAppRowIn {F : Fence} {n : Nat} {ops : Array Oper} {rest : List Oper} {o : Oper} {a : Act} {Q : Exit → Act → World → Prop} {w3 : World} {B : Nat} {v : Value} {us : List Value} {u : Value} {T : TypeId} (hgd : o.guard = none) (s x : Operand)
    (ho : o.op = .call { callee := .builtin .append, args := #[s, x], argTypes := #[46, 46] }) (hs : a.eval s = v) (hown : w3.ownsRow B 22 1 v us.length us) (hl : us.length < 1000000000) (hB : B ≤ w3.heap.size) (hu : u.oneCell' = true) (hx : a.eval x = .slice (some ⟨w3.heap.size, 0, none⟩) 1 1)
    (h : ∀ v' w4, w4.ownsRow B 22 1 v' (us ++ [u]).length (us ++ [u]) → w3.grownBy w4 v.ownBlock → (v'.ownBlock = v.ownBlock ∨ ∃ k, v'.ownBlock = some k ∧ w3.heap.size ≤ k) → wpListIn F n Try.prog ops Q rest (a.put o.dst v') w4) :
    wpListIn F n Try.prog ops Q (o :: rest) a (w3.alloc (.cells #[u] T)) := by
  obtain ⟨i0, hi, hz0, hz1, hz2⟩ := info_parts infoRow
  refine wpListIn_plain hgd fun K hK => ?_
  obtain ⟨v', w4, hrun, h1, h2, _, h4⟩ := run_append_own_at (P := Try.prog) (w3.alloc (.cells #[u] T)) B 46 o.type 22 i0 (.slice none 0 0) 1 24 Try.underlying46 hi hz0 hz1 hz2 rfl (by decide) v us.length us (hown.alloc _) ⟨w3.heap.size, 0, none⟩ 1 1 [u] rfl (cell_one_new _ _ _) (by intro u' hu'; simp at hu'; subst hu'; exact hu) (by unfold maxLen; omega) (by omega) (by simp; omega)
  unfold Oper.wpIn
  refine ⟨?_, ?_⟩
  · simp [Oper.about, ho, resolve, Target.leads, Sem.run_pure]
  · rw [Oper.semAt_plain F _ _ (by rw [ho]; intro c hc'; cases hc')]
    simp [execOp, ho, resolve, invoke, builtin, hs, hx, hrun, Result.andThen]
    refine hK _ _ (h v' w4 ?_ ?_ ?_)
    · simpa using h1
    · exact ⟨h2.os, h2.tape, h2.output, Nat.le_trans (by simp) h2.size, fun k hk hne => (h2.block k (by simp; omega) hne).trans (Below.heap_alloc w3 _ k hk)⟩
    · rcases h4 with h4 | h4
      · exact .inl h4
      · exact .inr ⟨_, h4, by simp⟩
/-- Between two rounds: the boxes of both graphs, the list's box, and the list: the orders among those that came that lead the one to the other. -/
structure Ob (w : World) (G H : List Value) (c : List Int → Bool) (NL n2 : Nat) (pre : List (List Int)) (W : World) : Prop where
  be : Below w.heap.size w W
  bg : Box W w.heap.size G
  bh : Box W (w.heap.size + 1) H
  ex : ∃ v us, Box W NL [v] ∧ OwnSS W n2 W.heap.size v us (pre.filter c)
  hz : n2 ≤ W.heap.size
theorem obj_of_cell {W : World} {k j : Nat} {v : Value} (h : W.cell? ⟨k, j, none⟩ = some v) : ∃ o, W.heap[k]? = some o ∧ o.isCells = true := by
  simp only [World.cell?] at h
  cases ho : W.heap[k]? with
  | none => rw [ho] at h; simp at h
  | some o =>
    rw [ho] at h
    cases o with
    | cells c e f => exact ⟨_, rfl, rfl⟩
    | _ => simp at h
theorem rowObj {W : World} {B n : Nat} {T : TypeId} {v : Value} {us : List Value} {k : Nat} (h : W.ownsRow B T 1 v n us) (hk : v.ownBlock = some k) : ∃ o, W.heap[k]? = some o ∧ o.isCells = true := by
  rcases h.2 with ⟨rfl, _⟩ | ⟨g, cap, cur, rfl, _, hg, _⟩
  · simp [Value.ownBlock] at hk
  · have : g = k := by simpa [Value.ownBlock] using hk
    subst this
    exact ⟨_, hg, rfl⟩
/-- Where a change leaves a list's own blocks, it leaves the list. -/
theorem OwnSS.soft {W W' : World} {lo hi hi' : Nat} {v : Value} {us : List Value} {xss : List (List Int)} (h : OwnSS W lo hi v us xss) (hh : hi ≤ hi') (hk : ∀ k o, W.heap[k]? = some o → o.isCells = true → lo ≤ k → k < hi → W'.heap[k]? = some o) : OwnSS W' lo hi' v us xss := by
  refine ⟨outer_heap h.outer fun k hq => ?_, h.len, fun k hq => Nat.lt_of_lt_of_le (h.hi0 k hq) hh, fun j hj => own_heap (h.rows j hj) fun k hq => ?_, fun j hj k hq => Nat.lt_of_lt_of_le (h.his j hj k hq) hh, h.apart, h.apart0⟩
  · obtain ⟨o, ho, hc⟩ := rowObj h.outer hq
    rw [hk k o ho hc (h.outer.lt k hq).1 (h.hi0 k hq), ho]
  · obtain ⟨o, ho, hc⟩ := rowObj (h.rows j hj) hq
    rw [hk k o ho hc ((h.rows j hj).lt k hq).1 (h.his j hj k hq), ho]
theorem Box.soft {W W' : World} {N : Nat} {cs : List Value} (h : Box W N cs) (hk : ∀ o, W.heap[N]? = some o → o.isCells = true → W'.heap[N]? = some o) : Box W' N cs := by
  obtain ⟨T, hT⟩ := h
  exact ⟨T, hk _ hT rfl⟩
theorem Ob.soft {w W W' : World} {G H : List Value} {c : List Int → Bool} {NL n2 : Nat} {pre : List (List Int)} (o : Ob w G H c NL n2 pre W) (hb : Below w.heap.size w W') (hz : W.heap.size ≤ W'.heap.size) (hk : ∀ k ob, W.heap[k]? = some ob → ob.isCells = true → (k = w.heap.size ∨ k = w.heap.size + 1 ∨ k = NL ∨ n2 ≤ k) → W'.heap[k]? = some ob) : Ob w G H c NL n2 pre W' := by
  obtain ⟨v, us, b, s⟩ := o.ex
  exact ⟨hb, o.bg.soft fun ob a c => hk _ ob a c (.inl rfl), o.bh.soft fun ob a c => hk _ ob a c (.inr (.inl rfl)), ⟨v, us, b.soft fun ob a c => hk _ ob a c (.inr (.inr (.inl rfl))), s.soft hz fun k ob a c d _ => hk k ob a c (.inr (.inr (.inr d)))⟩, Nat.le_trans o.hz hz⟩
/-- .. abides what is no cells. -/
theorem ob_own {w : World} {G H : List Value} {c : List Int → Bool} {NL n2 B : Nat} (hB : w.heap.size ≤ B) : OwnFrom B (Ob w G H c NL n2) := fun pre W W' row o hg hr =>
  o.soft (o.be.grown hg o.be.size fun r e => Nat.le_trans hB (hr r e).1) hg.size fun k ob a c _ => (hg.block k (Array.getElem?_eq_some_iff.1 a).1 fun e => by
    obtain ⟨ob', a', c'⟩ := (hr k e.symm).2
    rw [a] at a'; cases a'; rw [c] at c'; cases c').trans a
/-- .. and the iterator's own changes. -/
theorem ob_abides {w : World} {G H : List Value} {c : List Int → Bool} {NL n1 n2 : Nat} (h1 : w.heap.size + 1 < n1) (h2 : NL < n1) : AbidesIn n1 n2 (Ob w G H c NL n2) := fun pre W W' row o hg hr =>
  o.soft (o.be.grown hg o.be.size fun r e => by have := (hr r e).1; omega) hg.size fun k ob a _ d => (hg.block k (Array.getElem?_eq_some_iff.1 a).1 fun e => by have := hr k e.symm; omega).trans a
end Go.Proofs.Ytlcegpmhlnilfaa
