/- A talk appended inside a fence; what a loop over ordersOf knows that gathers talks. -/
import Derived.Test.YtlcegpmhlnilfaaRngQ
import Derived.Test.YtlcegpmhlnilfaaRngM
import Derived.Test.YtlcegpmhlnilfaaBHr
import Derived.Test.YtlcegpmhlnilfaaTrnI
namespace Go.Proofs.Ytlcegpmhlnilfaa
open Go.RowKit

/-- append of one talk to an owned list of talks, inside a fence. -/
theorem wpAppTurnIn {F : Fence} {n : Nat} {ops : Array Oper} {rest : List Oper} {o : Oper} {a : Act} {Q : Exit → Act → World → Prop} {w3 : World} {B : Nat} {v : Value} {d : List Tu} {x : Tu} {T : TypeId} (hgd : o.guard = none) (s y : Operand)
    (ho : o.op = .call { callee := .builtin .append, args := #[s, y], argTypes := #[34, 34] }) (hs : a.eval s = v) (hown : OutU w3 B v d) (hl : d.length < 1000000) (hB : B ≤ w3.heap.size) (hu : x.u.oneCell' = true) (hv : x.v.oneCell' = true) (hx : a.eval y = .slice (some ⟨w3.heap.size, 0, none⟩) 1 1)
    (h : ∀ v' w4, OutU w4 B v' (d ++ [x]) → w3.grownBy w4 v.ownBlock → (v'.ownBlock = v.ownBlock ∨ ∃ k, v'.ownBlock = some k ∧ w3.heap.size ≤ k) → wpListIn F n Try.prog ops Q rest (a.put o.dst v') w4) :
    wpListIn F n Try.prog ops Q (o :: rest) a (w3.alloc (.cells #[.int .i64 x.p, x.u, .int .i64 x.a, x.v] T)) := by
  obtain ⟨i0, hi, hz0, hz1, hz2⟩ := info_parts infoTurn
  refine wpListIn_plain hgd fun K hK => ?_
  obtain ⟨v', w4, hrun, h1, h2, _, h4⟩ := run_append_own_at (P := Try.prog) (w3.alloc (.cells #[.int .i64 x.p, x.u, .int .i64 x.a, x.v] T)) B 34 o.type 60 i0 (.agg #[.int .i64 0, .slice none 0 0, .int .i64 0, .slice none 0 0]) 4 64 Try.underlying34 hi hz0 hz1 hz2 rfl (by decide) v d.length (d.flatMap encU) (hown.alloc _) ⟨w3.heap.size, 0, none⟩ 1 1 (encU x) rfl
    (fun j u hj => by
      have hb := (Box.made w3 [.int .i64 x.p, x.u, .int .i64 x.a, x.v] T).cell j
      rw [show (⟨w3.heap.size, 0, none⟩ : Addr).add j = ⟨w3.heap.size, j, none⟩ by unfold Addr.add; split <;> simp_all]
      exact hb.trans hj)
    (fun u' hu' => by
      simp [encU] at hu'
      rcases hu' with rfl | rfl | rfl | rfl
      · rfl
      · exact hu
      · rfl
      · exact hv) (by unfold maxLen; omega) (by omega) (by simp; omega)
  unfold Oper.wpIn
  refine ⟨?_, ?_⟩
  · simp [Oper.about, ho, resolve, Target.leads, Sem.run_pure]
  · rw [Oper.semAt_plain F _ _ (by rw [ho]; intro c hc'; cases hc')]
    simp [execOp, ho, resolve, invoke, builtin, hs, hx, hrun, Result.andThen]
    refine hK _ _ (h v' w4 ?_ ?_ ?_)
    · unfold OutU; rw [List.length_append, List.flatMap_append]; simpa [encU] using h1
    · exact ⟨h2.os, h2.tape, h2.output, Nat.le_trans (by simp) h2.size, fun k hk hne => (h2.block k (by simp; omega) hne).trans (Below.heap_alloc w3 _ k hk)⟩
    · rcases h4 with h4 | h4
      · exact .inl h4
      · exact .inr ⟨_, h4, by simp⟩

def ownedU (v : Value) (d : List Tu) (k : Nat) : Prop := v.ownBlock = some k ∨ ∃ z, z ∈ lstU d ∧ z.1.ownBlock = some k
theorem rowObj4 {W : World} {B n s : Nat} {T : TypeId} {v : Value} {us : List Value} {k : Nat} (h : W.ownsRow B T s v n us) (hk : v.ownBlock = some k) : ∃ o, W.heap[k]? = some o ∧ o.isCells = true := by
  rcases h.2 with ⟨rfl, _⟩ | ⟨g, cap, cur, rfl, _, hg, _⟩
  · simp [Value.ownBlock] at hk
  · have : g = k := by simpa [Value.ownBlock] using hk
    subst this
    exact ⟨_, hg, rfl⟩
theorem OwnU.obj {W : World} {lo hi : Nat} {v : Value} {d : List Tu} (h : OwnU W lo hi v d) {k : Nat} (hk : ownedU v d k) : (∃ o, W.heap[k]? = some o ∧ o.isCells = true) ∧ lo ≤ k ∧ k < hi ∧ k < W.heap.size := by
  rcases hk with hk | ⟨z, hz, hk⟩
  · exact ⟨rowObj4 h.outer hk, (h.outer.lt k hk).1, h.hi0 k hk, (h.outer.lt k hk).2⟩
  · exact ⟨rowObj (h.rows z hz) hk, ((h.rows z hz).lt k hk).1, h.his z hz k hk, ((h.rows z hz).lt k hk).2⟩
theorem OwnU.same {W W' : World} {lo hi hi' : Nat} {v : Value} {d : List Tu} (h : OwnU W lo hi v d) (hh : hi ≤ hi') (hk : ∀ k, ownedU v d k → W'.heap[k]? = W.heap[k]?) : OwnU W' lo hi' v d :=
  ⟨row4_heap h.outer fun k e => hk k (.inl e), fun k e => Nat.lt_of_lt_of_le (h.hi0 k e) hh, fun z hz => own_heap (h.rows z hz) fun k e => hk k (.inr ⟨z, hz, e⟩), fun z hz k e => Nat.lt_of_lt_of_le (h.his z hz k e) hh, h.apart, h.apart0⟩
/-- Between two rounds: boxes, the list's box, the list; the iterator's own blocks lie from Bm on and below n2. -/
structure Oh (w : World) (Bs : List (Nat × List Value)) (NL Bm n2 : Nat) (v : Value) (d : List Tu) (W : World) : Prop where
  be : Below w.heap.size w W
  bx : ∀ x, x ∈ Bs → Box W x.1 x.2
  bl : Box W NL [v]
  ls : OwnU W w.heap.size W.heap.size v d
  av : ∀ k, ownedU v d k → k < Bm ∨ n2 ≤ k
  nl : ∀ k, ownedU v d k → k ≠ NL
  nb : ∀ x, x ∈ Bs → ∀ k, ownedU v d k → k ≠ x.1
  hz : n2 ≤ W.heap.size
/-- Where they lie. -/
structure Oz (w : World) (Bs : List (Nat × List Value)) (NL Bm : Nat) : Prop where
  l : w.heap.size ≤ NL ∧ NL < Bm
  b : ∀ x, x ∈ Bs → w.heap.size ≤ x.1 ∧ x.1 < Bm ∧ x.1 ≠ NL
section
variable {w W W' w3 w4 : World} {Bs : List (Nat × List Value)} {NL Bm n1 n2 : Nat} {v v2 : Value} {d : List Tu} {x : Tu}
theorem Oh.soft (o : Oh w Bs NL Bm n2 v d W) (z : Oz w Bs NL Bm) (hb : Below w.heap.size w W') (hz : W.heap.size ≤ W'.heap.size) (hk : ∀ k ob, W.heap[k]? = some ob → ob.isCells = true → (k < Bm ∨ n2 ≤ k) → W'.heap[k]? = some ob) : Oh w Bs NL Bm n2 v d W' :=
  ⟨hb, fun y hy => (o.bx y hy).soft fun ob a c => hk _ ob a c (.inl (z.b y hy).2.1), o.bl.soft fun ob a c => hk _ ob a c (.inl z.l.2), o.ls.same hz fun k e => by
    obtain ⟨⟨ob, ho, hc⟩, _⟩ := o.ls.obj e
    rw [hk k ob ho hc (o.av k e), ho], o.av, o.nl, o.nb, Nat.le_trans o.hz hz⟩
theorem Oh.on (o : Oh w Bs NL Bm n2 v d W) (z : Oz w Bs NL Bm) (hb : Below W.heap.size W W') : Oh w Bs NL Bm n2 v d W' :=
  o.soft z (Below.on o.be hb) hb.size fun k _ a _ _ => (hb.block k (Array.getElem?_eq_some_iff.1 a).1).trans a
theorem oh_own (o : Oh w Bs NL Bm n2 v d W) (z : Oz w Bs NL Bm) {B : Nat} (hB : w.heap.size ≤ B) {row : Option Nat} (hg : W.grownBy W' row) (hr : ∀ r, row = some r → B ≤ r ∧ ∃ o : Obj, W.heap[r]? = some o ∧ o.isCells = false) : Oh w Bs NL Bm n2 v d W' :=
  o.soft z (o.be.grown hg o.be.size fun r e => Nat.le_trans hB (hr r e).1) hg.size fun k ob a c _ => (hg.block k (Array.getElem?_eq_some_iff.1 a).1 fun e => by
    obtain ⟨ob', a', c'⟩ := (hr k e.symm).2
    rw [a] at a'; cases a'; rw [c] at c'; cases c').trans a
theorem oh_abides (o : Oh w Bs NL Bm n2 v d W) (z : Oz w Bs NL Bm) (h1 : Bm ≤ n1) {row : Option Nat} (hg : W.grownBy W' row) (hr : ∀ r, row = some r → n1 ≤ r ∧ r < n2) : Oh w Bs NL Bm n2 v d W' := by
  have hl := z.l
  exact o.soft z (o.be.grown hg o.be.size fun r e => by have := (hr r e).1; omega) hg.size fun k ob a _ h => (hg.block k (Array.getElem?_eq_some_iff.1 a).1 fun e => by have := hr k e.symm; omega).trans a
theorem Oh.keeps (hb : Below W.heap.size W W') : KeepsOthers W W' ∧ KpO Bm n1 n2 W W' := ⟨⟨hb.size, fun k _ a _ => (hb.block k (Array.getElem?_eq_some_iff.1 a).1).trans a⟩, hb.size, fun k _ a _ _ => (hb.block k (Array.getElem?_eq_some_iff.1 a).1).trans a⟩
/-- A talk more, and the list's box written. -/
theorem Oh.next (o : Oh w Bs NL Bm n2 v d W) (z : Oz w Bs NL Bm) (h1 : Bm < n1) (h2 : n1 ≤ n2) (hb : Below W.heap.size W w3) (hu : Own w3 W.heap.size x.u x.es) (hv : Own w3 W.heap.size x.v x.t) (huv : ∀ k, x.u.ownBlock = some k → x.v.ownBlock = some k → False)
    (ho : OutU w4 w.heap.size v2 (d ++ [x])) (hg : w3.grownBy w4 v.ownBlock) (hk : v2.ownBlock = v.ownBlock ∨ ∃ k, v2.ownBlock = some k ∧ w3.heap.size ≤ k) :
    KeepsOthers W (w4.setCell ⟨NL, 0, none⟩ v2) ∧ KpO Bm n1 n2 W (w4.setCell ⟨NL, 0, none⟩ v2) ∧ Oh w Bs NL Bm n2 v2 (d ++ [x]) (w4.setCell ⟨NL, 0, none⟩ v2) ∧ Box w4 NL [v] := by
  have k3 := o.on z hb
  have hl := z.l
  have hz0 := o.hz
  have hs3 := hb.size
  have hs4 := hg.size
  have hlw := o.bl.lt
  have hst : ∀ k, k ≠ NL → (w4.setCell ⟨NL, 0, none⟩ v2).heap[k]? = w4.heap[k]? := fun k hk => Below.heap_setCell _ _ _ _ hk
  have hz5 : (w4.setCell ⟨NL, 0, none⟩ v2).heap.size = w4.heap.size := by simp [World.setCell]
  have hav : ∀ q, v.ownBlock = some q → (q < Bm ∨ n2 ≤ q) ∧ q ≠ NL ∧ w.heap.size ≤ q := fun q hq => ⟨o.av q (.inl hq), o.nl q (.inl hq), (o.ls.obj (.inl hq)).2.1⟩
  have hlow : ∀ k ob, W.heap[k]? = some ob → (∀ q, v.ownBlock = some q → k ≠ q) → w4.heap[k]? = some ob := fun k ob a e =>
    (hg.block k (Nat.lt_of_lt_of_le (Array.getElem?_eq_some_iff.1 a).1 hs3) fun h => e k h.symm rfl).trans ((hb.block k (Array.getElem?_eq_some_iff.1 a).1).trans a)
  have bx4 : ∀ {N : Nat} {cs : List Value}, Box W N cs → (∀ q, v.ownBlock = some q → q ≠ N) → Box w4 N cs := fun {N cs} hbx hne => by
    obtain ⟨T, hT⟩ := hbx
    exact ⟨T, hlow N _ hT fun q hq e => hne q hq e.symm⟩
  have hown : OwnU w4 w.heap.size w4.heap.size v2 (d ++ [x]) := OwnU.appNew o.ls hb (by have := o.be.size; omega) hs4 hu hv huv ho hg hk
  have hot : ∀ k, ownedU v2 (d ++ [x]) k → ownedU v d k ∨ W.heap.size ≤ k := fun k hk' => by
    rcases hk' with e | ⟨y, hy, e⟩
    · rcases hk with h | ⟨q, h, hq⟩
      · exact .inl (.inl (by rw [← h]; exact e))
      · rw [h] at e; cases e; exact .inr (by omega)
    · rw [lstU_app, List.mem_append, lstU_one] at hy
      rcases hy with hy | hy
      · exact .inl (.inr ⟨y, hy, e⟩)
      · simp at hy
        rcases hy with rfl | rfl
        · exact .inr (hu.lt k e).1
        · exact .inr (hv.lt k e).1
  have hne : ∀ k, ownedU v2 (d ++ [x]) k → k ≠ NL := fun k hk' => by
    rcases hot k hk' with h | h
    · exact o.nl k h
    · omega
  refine ⟨⟨by rw [hz5]; omega, fun k ob a c => ?_⟩, ⟨by rw [hz5]; omega, fun k ob a _ h => ?_⟩, ⟨?_, fun y hy => ?_, ?_, ?_, fun k hk' => ?_, hne, fun y hy k hk' => ?_, by rw [hz5]; omega⟩, bx4 o.bl fun q hq => (hav q hq).2.1⟩
  · have hn : k ≠ NL := fun e => by
      subst e
      obtain ⟨T, hT⟩ := o.bl
      rw [a] at hT; cases hT; cases c
    rw [hst k hn]
    refine hlow k ob a fun q hq e => ?_
    subst e
    obtain ⟨⟨o', ho', hc'⟩, _⟩ := o.ls.obj (.inl hq)
    rw [a] at ho'; cases ho'; rw [c] at hc'; cases hc'
  · rw [hst k (by omega)]
    exact hlow k ob a fun q hq e => by have := (hav q hq).1; omega
  · exact ((k3.be).grown hg k3.be.size fun q hq => (hav q hq).2.2).setCell (p := ⟨NL, 0, none⟩) (by show w.heap.size ≤ NL; omega) _
  · have hy2 := z.b y hy
    exact (bx4 (o.bx y hy) fun q hq e => by
      exact o.nb y hy q (.inl hq) e).far hy2.2.2 _
  · exact (bx4 o.bl fun q hq => (hav q hq).2.1).set 0 _
  · exact hown.same (by rw [hz5]; exact Nat.le_refl _) fun k hk' => hst k (hne k hk')
  · rcases hot k hk' with h | h
    · exact o.av k h
    · exact .inr (by omega)
  · rcases hot k hk' with h | h
    · exact o.nb y hy k h
    · have := (o.bx y hy).lt; omega
end
end Go.Proofs.Ytlcegpmhlnilfaa
