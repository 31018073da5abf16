/- Where the draw of a relation (l20Claim) stands, step by step. -/
import Derived.Test.YtljekapbcphdaabDoorDrawQ
import Derived.Test.YtljekapbcphdaabDoorMkS
import Derived.Test.YtljekapbcphdaabDoorBReg
namespace Go.Proofs.YtljekapbcphdaabDoor
open Go.RowKit

/-- Nothing above block R changed. -/
def Above (R : Nat) (w w' : World) : Prop := w.heap.size ≤ w'.heap.size ∧ ∀ q, R < q → q < w.heap.size → w'.heap[q]? = w.heap[q]?
theorem Above.refl (R : Nat) (w : World) : Above R w w := ⟨Nat.le_refl _, fun _ _ _ => rfl⟩
theorem Above.trans {R : Nat} {a b c : World} (h : Above R a b) (k : Above R b c) : Above R a c := ⟨Nat.le_trans h.1 k.1, fun q h1 h2 => (k.2 q h1 (Nat.lt_of_lt_of_le h2 h.1)).trans (h.2 q h1 h2)⟩
theorem Above.mono {R N : Nat} {w w' : World} (h : Above R w w') (hR : R ≤ N) : Above N w w' := ⟨h.1, fun q h1 h2 => h.2 q (Nat.lt_of_le_of_lt hR h1) h2⟩
theorem Above.grown {R : Nat} {w w' : World} (hg : w.grownBy w' (some R)) : Above R w w' := ⟨hg.size, fun q h1 h2 => hg.block q h2 fun e => by cases e; omega⟩
theorem Above.below {R : Nat} {w w' : World} (hb : Below w.heap.size w w') : Above R w w' := ⟨hb.size, fun q _ h2 => hb.block q h2⟩
theorem Above.set {R N j : Nat} {w : World} (h : N ≤ R) (v : Value) : Above R w (w.setCell ⟨N, j, none⟩ v) := ⟨by simp [World.setCell], fun q h1 _ => Below.heap_setCell _ _ _ _ (by show q ≠ N; omega)⟩
theorem Above.own {R B : Nat} {w w' : World} {v : Value} {xs : List Int} (h : Above R w w') (ho : Own w B v xs) (hB : R < B) : Own w' B v xs := own_heap ho fun b hb => h.2 b (Nat.lt_of_lt_of_le hB (ho.lt b hb).1) (ho.lt b hb).2

/-- A slice whose length is within its capacity. -/
def Capped (v : Value) : Prop := ∃ a n c, v = .slice a n c ∧ n ≤ c
theorem capped_row {w : World} {B m n : Nat} {T : TypeId} {v : Value} {us : List Value} (h : w.ownsRow B T m v n us) : Capped v := by
  rcases h.2 with ⟨e, _⟩ | ⟨g, cap, cur, e, _, _, hn, _⟩
  · exact ⟨none, 0, 0, e, Nat.le_refl _⟩
  · exact ⟨_, _, _, e, hn⟩
/-- A relation was drawn, and exponents: lists that can be read, whatever is drawn behind, of bounded length. -/
def ClaimPost (R k d : Nat) (w : World) (e : Ending) (w' : World) : Prop :=
  ∃ (g : Int) (rv mv ev : Value) (rows : List (List Int)) (makes es : List Int), e = .returned (.tuple #[.agg #[.int .i64 g, rv, mv], ev]) ∧ (∀ w'', Above w.heap.size w' w'' → Cw w'' rv mv rows makes ∧ Ints w'' ev es) ∧ rows.length ≤ 3 ∧ (∀ j, j < rows.length → (row rows j).length ≤ 3) ∧ makes.length ≤ 4 ∧ es.length ≤ 2 ∧ 0 ≤ g ∧ g < 4 ∧ (Capped rv ∧ Capped mv) ∧
    w.grownBy w' (some R) ∧ ∃ k', k' ≤ k + d ∧ Rd w' R k'

theorem Rd.upto {w w' : World} {R k B : Nat} (h : Rd w R k) (hb : Below B w w') (hB : R < B) : Rd w' R k :=
  h.of_same (hb.cell (p := ⟨R, 0, none⟩) hB) ((hb.cell (p := ⟨R, 1, none⟩) hB).trans h.pos) ((hb.frozen (p := ⟨R, 1, none⟩) hB).trans h.free) hb.size (fun b o hbR => hb.cell (p := ⟨b, o, none⟩) (Nat.lt_trans hbR hB))
theorem Box.kept {w w' : World} {N : Nat} {cs : List Value} (h : Box w N cs) (hh : w'.heap[N]? = w.heap[N]?) : Box w' N cs := by
  obtain ⟨T, hb⟩ := h
  exact ⟨T, by rw [hh]; exact hb⟩

/-- Where the draw of a relation stands: the reader, two boxes, the rows so far (in blocks from lo on, below hi). -/
structure St (w : World) (R N4 N7 lo hi : Nat) (C7 : List Value) (wr : World) (k : Nat) (v : Value) (us : List Value) (xss : List (List Int)) : Prop where
  rd : Rd wr R k
  gr : w.grownBy wr (some R)
  b4 : Box wr N4 [.int .i64 0, .slice none 0 0, .slice none 0 0]
  b7 : Box wr N7 C7
  own : OwnSS wr lo hi v us xss
  r4 : R < N4
  n47 : N4 < N7
  n7 : N7 < lo
  lo0 : lo ≤ hi
  hi0 : hi ≤ wr.heap.size
  w0 : w.heap.size ≤ N4
section
variable {w : World} {R N4 N7 lo hi : Nat} {C7 : List Value} {wr : World} {k : Nat} {v : Value} {us : List Value} {xss : List (List Int)}
theorem St.draw {w' : World} {k' : Nat} (h : St w R N4 N7 lo hi C7 wr k v us xss) (hg : wr.grownBy w' (some R)) (hr : Rd w' R k') : St w R N4 N7 lo hi C7 w' k' v us xss := by
  have := h.r4; have := h.n47; have := h.n7; have := h.lo0; have := h.hi0
  exact ⟨hr, grown_trans h.gr hg, h.b4.kept (hg.block _ (by omega) (fun e => by cases e; omega)), h.b7.kept (hg.block _ (by omega) (fun e => by cases e; omega)),
    h.own.heap fun q h1 h2 => hg.block q (by omega) (fun e => by cases e; omega), h.r4, h.n47, h.n7, h.lo0, Nat.le_trans h.hi0 hg.size, h.w0⟩
theorem St.on {w' : World} (h : St w R N4 N7 lo hi C7 wr k v us xss) (hb : Below wr.heap.size wr w') : St w R N4 N7 lo hi C7 w' k v us xss := h.draw (grown_below R hb) (h.rd.below hb)
/-- Blocks from hi on may have changed. -/
theorem St.far {w' : World} (h : St w R N4 N7 lo hi C7 wr k v us xss) (hb : Below hi wr w') : St w R N4 N7 lo hi C7 w' k v us xss := by
  have := h.r4; have := h.n47; have := h.n7; have := h.lo0; have := h.hi0; have := h.w0
  have hg := h.gr
  exact ⟨h.rd.upto hb (by omega), ⟨hb.os.trans hg.os, hb.tape.trans hg.tape, hb.output.trans hg.output, Nat.le_trans hg.size hb.size, fun q h1 h2 => (hb.block q (by omega)).trans (hg.block q h1 h2)⟩,
    h.b4.kept (hb.block _ (by omega)), h.b7.kept (hb.block _ (by omega)), h.own.heap fun q _ h2 => hb.block q h2, h.r4, h.n47, h.n7, h.lo0, Nat.le_trans h.hi0 hb.size, h.w0⟩
theorem St.wide (h : St w R N4 N7 lo hi C7 wr k v us xss) : St w R N4 N7 lo wr.heap.size C7 wr k v us xss :=
  ⟨h.rd, h.gr, h.b4, h.b7, h.own.wider h.hi0, h.r4, h.n47, h.n7, Nat.le_trans h.lo0 h.hi0, Nat.le_refl _, h.w0⟩
/-- A row more, and the longer list of rows put in the box. -/
theorem St.row {w4 : World} {g : Int} {mv v' u : Value} {ys : List Int} (h : St w R N4 N7 lo hi [.int .i64 g, v, mv] wr k v us xss) (hu : Own wr hi u ys)
    (ho : w4.ownsRow lo 24 1 v' (us ++ [u]).length (us ++ [u])) (hg : wr.grownBy w4 v.ownBlock) (hk : v'.ownBlock = v.ownBlock ∨ ∃ b, v'.ownBlock = some b ∧ wr.heap.size ≤ b) :
    St w R N4 N7 lo (w4.setCell ⟨N7, 1, none⟩ v').heap.size [.int .i64 g, v', mv] (w4.setCell ⟨N7, 1, none⟩ v') k v' (us ++ [u]) (xss ++ [ys]) := by
  have q1 := h.r4; have q2 := h.n47; have q3 := h.n7; have q4 := h.lo0; have q5 := h.hi0; have q6 := h.w0
  have hsz : (w4.setCell ⟨N7, 1, none⟩ v').heap.size = w4.heap.size := by simp [World.setCell]
  have hlo : ∀ b, v.ownBlock = some b → lo ≤ b := fun b hb => (h.own.outer.lt b hb).1
  have o := OwnSS.app h.own (Nat.le_trans h.hi0 hg.size) hg.size (Nat.le_refl _) (own_mono hu q4) (fun j hj q h1 h2 => by have := h.own.his j hj q h1; have := (hu.lt q h2).1; omega)
    (fun q h1 h2 => by have := h.own.hi0 q h2; have := (hu.lt q h1).1; omega) ho hg hk
  have hb4 : ∀ q, q < lo → q < wr.heap.size → w4.heap[q]? = wr.heap[q]? := fun q h1 h2 => hg.block q h2 fun e => by have := hlo q e.symm; omega
  have hst : ∀ q, q ≠ N7 → (w4.setCell ⟨N7, 1, none⟩ v').heap[q]? = w4.heap[q]? := fun q hq => Below.heap_setCell _ _ _ _ hq
  have hgr := h.gr
  refine ⟨?_, ⟨hg.os.trans hgr.os, hg.tape.trans hgr.tape, hg.output.trans hgr.output, by rw [hsz]; exact Nat.le_trans hgr.size hg.size, fun q h1 h2 => ?_⟩, ?_, ?_, ?_, q1, q2, q3, by rw [hsz]; exact Nat.le_trans q4 (Nat.le_trans q5 hg.size), Nat.le_refl _, q6⟩
  · exact h.rd.upto (B := R + 1) ⟨hg.os, hg.tape, hg.output, by rw [hsz]; exact hg.size, fun q hq => (hst q (by omega)).trans (hb4 q (by omega) (by omega))⟩ (by omega)
  · rw [hst q (by omega), hb4 q (by omega) (by omega)]
    exact hgr.block q h1 h2
  · exact h.b4.kept ((hst _ (by omega)).trans (hb4 _ (by omega) (by omega)))
  · exact (h.b7.kept (hb4 N7 (by omega) (by omega))).set 1 v'
  · rw [hsz]
    exact o.heap fun q h1 _ => hst q (by omega)
end

/-- The relation's elements and the exponents, too: lists apart from each other, from hi on. -/
structure Sv (w : World) (R N4 N7 lo hi : Nat) (g : Int) (wr : World) (k : Nat) (v : Value) (us : List Value) (xss : List (List Int)) (mv : Value) (ms : List Int) (ev : Value) (es : List Int) : Prop where
  st : St w R N4 N7 lo hi [.int .i64 g, v, mv] wr k v us xss
  mks : Own wr hi mv ms
  ex : Own wr hi ev es
  apart : ∀ b, mv.ownBlock = some b → ev.ownBlock = some b → False
section
variable {w : World} {R N4 N7 lo hi : Nat} {g : Int} {wr : World} {k : Nat} {v : Value} {us : List Value} {xss : List (List Int)} {mv : Value} {ms : List Int} {ev : Value} {es : List Int}
theorem Sv.draw {w' : World} {k' : Nat} (h : Sv w R N4 N7 lo hi g wr k v us xss mv ms ev es) (hg : wr.grownBy w' (some R)) (hr : Rd w' R k') : Sv w R N4 N7 lo hi g w' k' v us xss mv ms ev es := by
  have q1 := h.st.r4; have q2 := h.st.n47; have q3 := h.st.n7; have q4 := h.st.lo0
  have kp : ∀ {x : Value} {zs : List Int}, Own wr hi x zs → Own w' hi x zs := fun {x zs} hx => own_heap hx fun b hb => hg.block b (hx.lt b hb).2 fun e => by cases e; have := (hx.lt _ hb).1; omega
  exact ⟨h.st.draw hg hr, kp h.mks, kp h.ex, h.apart⟩
theorem Sv.start {x : Value} (h : St w R N4 N7 lo hi [.int .i64 g, v, x] wr k v us xss) (hm : Own wr hi mv ms) (he : Own wr hi ev es) (ha : ∀ b, mv.ownBlock = some b → ev.ownBlock = some b → False) :
    Sv w R N4 N7 lo hi g (wr.setCell ⟨N7, 2, none⟩ mv) k v us xss mv ms ev es := by
  have q1 := h.r4; have q2 := h.n47; have q3 := h.n7; have q4 := h.lo0; have q6 := h.w0
  have hgr := h.gr
  have hst : ∀ q, q ≠ N7 → (wr.setCell ⟨N7, 2, none⟩ mv).heap[q]? = wr.heap[q]? := fun q hq => Below.heap_setCell _ _ _ _ hq
  have hsz : (wr.setCell ⟨N7, 2, none⟩ mv).heap.size = wr.heap.size := by simp [World.setCell]
  have kp : ∀ {x : Value} {zs : List Int}, Own wr hi x zs → Own (wr.setCell ⟨N7, 2, none⟩ mv) hi x zs := fun {x zs} hx => own_heap hx fun b hb => hst b (by have := (hx.lt b hb).1; omega)
  exact ⟨⟨h.rd.upto (B := R + 1) ⟨rfl, rfl, rfl, by rw [hsz]; exact Nat.le_refl _, fun q hq => hst q (by omega)⟩ (by omega), ⟨hgr.os, hgr.tape, hgr.output, by rw [hsz]; exact hgr.size, fun q h1 h2 => (hst q (by omega)).trans (hgr.block q h1 h2)⟩,
    h.b4.kept (hst _ (by omega)), h.b7.set 2 mv, h.own.heap fun q q7 _ => hst q (by omega), q1, q2, q3, q4, by rw [hsz]; exact h.hi0, q6⟩, kp hm, kp he, ha⟩
theorem Sv.put {M n c j : Nat} {x : Int} (h : Sv w R N4 N7 lo hi g wr k v us xss (.slice (some ⟨M, 0, none⟩) n c) ms ev es) (hn : n = ms.length) :
    Sv w R N4 N7 lo hi g (wr.setCell ⟨M, j, none⟩ (.int .i64 x)) k v us xss (.slice (some ⟨M, 0, none⟩) n c) (ms.set j x) ev es := by
  subst hn
  have hM := (h.mks.lt M rfl).1
  have hs := World.ownsRow.stored h.mks j (.int .i64 x)
  refine ⟨h.st.far ⟨hs.2.os, hs.2.tape, hs.2.output, hs.2.size, fun q hq => Below.heap_setCell _ _ _ _ (by show q ≠ M; omega)⟩, ?_, own_heap h.ex fun b hb => Below.heap_setCell _ _ _ _ (by show b ≠ M; intro e; subst e; exact h.apart b rfl hb), h.apart⟩
  have := hs.1
  unfold Own
  rw [List.length_set, List.map_set]
  exact this
end
theorem Sv.fin {w : World} {R N7 lo hi : Nat} {g : Int} {wr : World} {k k0 d : Nat} {v : Value} {us : List Value} {xss : List (List Int)} {mv : Value} {ms : List Int} {ev : Value} {es : List Int} (h : Sv w R w.heap.size N7 lo hi g wr k v us xss mv ms ev es) (x0 x1 x2 : Value)
    (h1 : xss.length ≤ 3) (h2 : ∀ j, j < xss.length → (row xss j).length ≤ 3) (h3 : ms.length ≤ 4) (h4 : es.length ≤ 2) (g0 : 0 ≤ g) (g4 : g < 4) (hk : k ≤ k0 + d) :
    ClaimPost R k0 d w (.returned (.tuple #[.agg #[.int .i64 g, v, mv], ev])) (((wr.setCell ⟨w.heap.size, 0, none⟩ x0).setCell ⟨w.heap.size, 1, none⟩ x1).setCell ⟨w.heap.size, 2, none⟩ x2) := by
  have q1 := h.st.r4; have q2 := h.st.n47; have q3 := h.st.n7; have q4 := h.st.lo0
  have hgr := h.st.gr
  have hst : ∀ q, q ≠ w.heap.size → (((wr.setCell ⟨w.heap.size, 0, none⟩ x0).setCell ⟨w.heap.size, 1, none⟩ x1).setCell ⟨w.heap.size, 2, none⟩ x2).heap[q]? = wr.heap[q]? := fun q hq =>
    (Below.heap_setCell _ _ _ _ hq).trans ((Below.heap_setCell _ _ _ _ hq).trans (Below.heap_setCell _ _ _ _ hq))
  have hsz : (((wr.setCell ⟨w.heap.size, 0, none⟩ x0).setCell ⟨w.heap.size, 1, none⟩ x1).setCell ⟨w.heap.size, 2, none⟩ x2).heap.size = wr.heap.size := by simp [World.setCell]
  have hfar : ∀ {w'' : World}, Above w.heap.size ((((wr.setCell ⟨w.heap.size, 0, none⟩ x0).setCell ⟨w.heap.size, 1, none⟩ x1).setCell ⟨w.heap.size, 2, none⟩ x2)) w'' → ∀ q, lo ≤ q → q < wr.heap.size → w''.heap[q]? = wr.heap[q]? := fun hg q a b => (hg.2 q (by omega) (by rw [hsz]; exact b)).trans (hst q (by omega))
  refine ⟨g, v, mv, ev, xss, ms, es, rfl, fun w'' hg => ⟨⟨?_, Ints.of_own (own_heap h.mks fun b hb => hfar hg b (Nat.le_trans q4 (h.mks.lt b hb).1) (h.mks.lt b hb).2) (by unfold maxLen; omega)⟩, Ints.of_own (own_heap h.ex fun b hb => hfar hg b (Nat.le_trans q4 (h.ex.lt b hb).1) (h.ex.lt b hb).2) (by unfold maxLen; omega)⟩, h1, h2, h3, h4, g0, g4, ⟨capped_row h.st.own.outer, capped_row h.mks⟩, ?_, k, hk, ?_⟩
  · exact (h.st.own.heap fun q a b => hfar hg q a (Nat.lt_of_lt_of_le b h.st.hi0)).ints (by unfold maxLen; omega) fun j hj => by have := h2 j hj; unfold maxLen; omega
  · exact ⟨hgr.os, hgr.tape, hgr.output, by rw [hsz]; exact hgr.size, fun q a b => (hst q (by omega)).trans (hgr.block q a b)⟩
  · exact h.st.rd.upto (B := R + 1) ⟨rfl, rfl, rfl, by rw [hsz]; exact Nat.le_refl _, fun q hq => hst q (by omega)⟩ (by omega)
theorem Sv.fin0 {w : World} {R N7 lo hi : Nat} {g : Int} {wr : World} {k k0 d : Nat} {v : Value} {us : List Value} {xss : List (List Int)} {mv : Value} {ms : List Int} {ev : Value} {es : List Int} (h : Sv w R w.heap.size N7 lo hi g wr k v us xss mv ms ev es) (x0 x1 x2 : Value)
    (h4 : es.length ≤ 2) (hk : k ≤ k0 + d) :
    ClaimPost R k0 d w (.returned (.tuple #[.agg #[.int .i64 0, .slice none 0 0, .slice none 0 0], ev])) (((wr.setCell ⟨w.heap.size, 0, none⟩ x0).setCell ⟨w.heap.size, 1, none⟩ x1).setCell ⟨w.heap.size, 2, none⟩ x2) := by
  have q1 := h.st.r4; have q2 := h.st.n47; have q3 := h.st.n7; have q4 := h.st.lo0
  have hgr := h.st.gr
  have hst : ∀ q, q ≠ w.heap.size → (((wr.setCell ⟨w.heap.size, 0, none⟩ x0).setCell ⟨w.heap.size, 1, none⟩ x1).setCell ⟨w.heap.size, 2, none⟩ x2).heap[q]? = wr.heap[q]? := fun q hq =>
    (Below.heap_setCell _ _ _ _ hq).trans ((Below.heap_setCell _ _ _ _ hq).trans (Below.heap_setCell _ _ _ _ hq))
  have hsz : (((wr.setCell ⟨w.heap.size, 0, none⟩ x0).setCell ⟨w.heap.size, 1, none⟩ x1).setCell ⟨w.heap.size, 2, none⟩ x2).heap.size = wr.heap.size := by simp [World.setCell]
  have hfar : ∀ {w'' : World}, Above w.heap.size ((((wr.setCell ⟨w.heap.size, 0, none⟩ x0).setCell ⟨w.heap.size, 1, none⟩ x1).setCell ⟨w.heap.size, 2, none⟩ x2)) w'' → ∀ q, lo ≤ q → q < wr.heap.size → w''.heap[q]? = wr.heap[q]? := fun hg q a b => (hg.2 q (by omega) (by rw [hsz]; exact b)).trans (hst q (by omega))
  refine ⟨0, _, _, ev, [], [], es, rfl, fun w'' hg => ⟨⟨⟨none, 0, rfl, by simp, fun j hj => by simp at hj⟩, .inl ⟨rfl, rfl⟩⟩, Ints.of_own (own_heap h.ex fun b hb => hfar hg b (Nat.le_trans q4 (h.ex.lt b hb).1) (h.ex.lt b hb).2) (by unfold maxLen; omega)⟩, by simp, fun j hj => by simp at hj, by simp, h4, by omega, by omega, ⟨⟨none, 0, 0, rfl, Nat.le_refl _⟩, ⟨none, 0, 0, rfl, Nat.le_refl _⟩⟩, ?_, k, hk, ?_⟩
  · exact ⟨hgr.os, hgr.tape, hgr.output, by rw [hsz]; exact hgr.size, fun q a b => (hst q (by omega)).trans (hgr.block q a b)⟩
  · exact h.st.rd.upto (B := R + 1) ⟨rfl, rfl, rfl, by rw [hsz]; exact Nat.le_refl _, fun q hq => hst q (by omega)⟩ (by omega)
theorem Sv.zero {w : World} {R N4 N7 lo hi : Nat} {g : Int} {wr : World} {k : Nat} {v : Value} {us : List Value} {xss : List (List Int)} {mv : Value} {ms : List Int} {ev : Value} {es : List Int} (h : Sv w R N4 N7 lo hi g wr k v us xss mv ms ev es) {X c : Nat} (y : Int)
    (h0 : 0 < us.length) (hv : val us 0 = .slice (some ⟨X, 0, none⟩) (row xss 0).length c) : Sv w R N4 N7 lo hi g (wr.setCell ⟨X, 0, none⟩ (.int .i64 y)) k v us (xss.set 0 ((row xss 0).set 0 y)) mv ms ev es := by
  have q1 := h.st.r4; have q2 := h.st.n47; have q3 := h.st.n7; have q4 := h.st.lo0; have q5 := h.st.hi0; have q6 := h.st.w0
  have hr := h.st.own.rows 0 h0
  have hX1 := h.st.own.his 0 h0 X (by rw [hv]; rfl)
  rw [hv] at hr
  have hX0 := (hr.lt X rfl).1
  have hs := World.ownsRow.stored hr 0 (.int .i64 y)
  have hst : ∀ q, q ≠ X → (wr.setCell ⟨X, 0, none⟩ (.int .i64 y)).heap[q]? = wr.heap[q]? := fun q hq => Below.heap_setCell _ _ _ _ hq
  have hsz : (wr.setCell ⟨X, 0, none⟩ (.int .i64 y)).heap.size = wr.heap.size := by simp [World.setCell]
  have hu : Own (wr.setCell ⟨X, 0, none⟩ (.int .i64 y)) lo (val us 0) ((row xss 0).set 0 y) := by
    unfold Own
    rw [List.length_set, List.map_set, hv]
    exact hs.1
  have kp : ∀ {x : Value} {zs : List Int}, Own wr hi x zs → Own (wr.setCell ⟨X, 0, none⟩ (.int .i64 y)) hi x zs := fun {x zs} hx => own_heap hx fun b hb => hst b (by have := (hx.lt b hb).1; omega)
  have hgr := h.st.gr
  exact ⟨⟨h.st.rd.upto (B := R + 1) ⟨rfl, rfl, rfl, by rw [hsz]; exact Nat.le_refl _, fun q hq => hst q (by omega)⟩ (by omega), ⟨hgr.os, hgr.tape, hgr.output, by rw [hsz]; exact hgr.size, fun q a b => (hst q (by omega)).trans (hgr.block q a b)⟩,
    h.st.b4.kept (hst _ (by omega)), h.st.b7.kept (hst _ (by omega)), OwnSS.set h.st.own h0 hu (by rw [hv]; exact hs.2), q1, q2, q3, q4, by rw [hsz]; exact q5, q6⟩, kp h.mks, kp h.ex, h.apart⟩
theorem Sv.app {w : World} {R N4 N7 lo hi : Nat} {g : Int} {wr w4 : World} {k : Nat} {v : Value} {us : List Value} {xss : List (List Int)} {mv mv' : Value} {ms ms' : List Int} {ev : Value} {es : List Int} (h : Sv w R N4 N7 lo hi g wr k v us xss mv ms ev es)
    (ho : Own w4 hi mv' ms') (hg : wr.grownBy w4 mv.ownBlock) (hk : mv'.ownBlock = mv.ownBlock ∨ ∃ b, mv'.ownBlock = some b ∧ wr.heap.size ≤ b) : Sv w R N4 N7 lo hi g (w4.setCell ⟨N7, 2, none⟩ mv') k v us xss mv' ms' ev es := by
  have hb : Below hi wr w4 := (Below.refl _ _).grown hg h.st.hi0 fun b hb => (h.mks.lt b hb).1
  refine Sv.start (h.st.far hb) ho (own_heap h.ex fun b h1 => hg.block b (h.ex.lt b h1).2 fun e => h.apart b e.symm h1) fun b h1 h2 => ?_
  rcases hk with hk | ⟨b', hk, hl⟩
  · exact h.apart b (by rw [← hk]; exact h1) h2
  · rw [hk] at h1; cases h1
    have := (h.ex.lt _ h2).2
    omega
/-- Row 0 made longer, and put in the list of rows: what is left to know. -/
theorem Sv.swap {w : World} {R N7 lo hi : Nat} {g : Int} {wa w' : World} {k : Nat} {us : List Value} {xss : List (List Int)} {mv : Value} {ms : List Int} {ev : Value} {es : List Int} {Y n c : Nat} {v' : Value} {ys : List Int} (h : Sv w R w.heap.size N7 lo hi g wa k (.slice (some ⟨Y, 0, none⟩) n c) us xss mv ms ev es)
    (h0 : 0 < us.length) (hn : n = xss.length) (hl : xss.length ≤ 3) (hr : ∀ j, j < xss.length → (row xss j).length ≤ 3) (hy : ys.length ≤ 3) (ho : Own w' lo v' ys) (hg : wa.grownBy w' (val us 0).ownBlock) (hk : v'.ownBlock = (val us 0).ownBlock ∨ ∃ b, v'.ownBlock = some b ∧ wa.heap.size ≤ b) :
    Rd (w'.setCell ⟨Y, 0, none⟩ v') R k ∧ w.grownBy (w'.setCell ⟨Y, 0, none⟩ v') (some R) ∧ Box (w'.setCell ⟨Y, 0, none⟩ v') w.heap.size [.int .i64 0, .slice none 0 0, .slice none 0 0] ∧ Box (w'.setCell ⟨Y, 0, none⟩ v') N7 [.int .i64 g, .slice (some ⟨Y, 0, none⟩) n c, mv] ∧
    (∀ W : World, (w'.setCell ⟨Y, 0, none⟩ v').heap.size ≤ W.heap.size → (∀ q, lo ≤ q → q < (w'.setCell ⟨Y, 0, none⟩ v').heap.size → W.heap[q]? = (w'.setCell ⟨Y, 0, none⟩ v').heap[q]?) → IntSS W (.slice (some ⟨Y, 0, none⟩) n c) (xss.set 0 ys)) ∧ Own (w'.setCell ⟨Y, 0, none⟩ v') hi mv ms ∧ Own (w'.setCell ⟨Y, 0, none⟩ v') hi ev es := by
  have q1 := h.st.r4; have q2 := h.st.n47; have q3 := h.st.n7; have q4 := h.st.lo0; have q5 := h.st.hi0; have q6 := h.st.w0
  have hY0 := (h.st.own.outer.lt Y rfl).1
  have hY1 := h.st.own.hi0 Y rfl
  have hsz : (w'.setCell ⟨Y, 0, none⟩ v').heap.size = w'.heap.size := by simp [World.setCell]
  have hst : ∀ q, q ≠ Y → (w'.setCell ⟨Y, 0, none⟩ v').heap[q]? = w'.heap[q]? := fun q hq => Below.heap_setCell _ _ _ _ hq
  have hx : ∀ b, (val us 0).ownBlock = some b → lo ≤ b ∧ b < hi ∧ b ≠ Y := fun b hb => ⟨((h.st.own.rows 0 h0).lt b hb).1, h.st.own.his 0 h0 b hb, fun e => h.st.own.apart0 0 h0 b hb (by rw [e]; rfl)⟩
  have far : ∀ q, q < wa.heap.size → (q < lo ∨ hi ≤ q) → (w'.setCell ⟨Y, 0, none⟩ v').heap[q]? = wa.heap[q]? := fun q h1 h2 => (hst q (by omega)).trans (hg.block q h1 fun e => by have := hx q e.symm; omega)
  have hgr := h.st.gr
  have hvY : ∀ b, v'.ownBlock = some b → b ≠ Y := fun b hb => by
    rcases hk with hk | ⟨b', hk, hl'⟩
    · exact (hx b (by rw [← hk]; exact hb)).2.2
    · rw [hk] at hb; cases hb; omega
  refine ⟨h.st.rd.upto (B := R + 1) ⟨hg.os, hg.tape, hg.output, by rw [hsz]; exact hg.size, fun q hq => far q (by omega) (.inl (by omega))⟩ (by omega),
    ⟨hg.os.trans hgr.os, hg.tape.trans hgr.tape, hg.output.trans hgr.output, by rw [hsz]; exact Nat.le_trans hgr.size hg.size, fun q a b => (far q (by omega) (.inl (by omega))).trans (hgr.block q a b)⟩,
    h.st.b4.kept (far _ (by omega) (.inl (by omega))), h.st.b7.kept (far _ (by omega) (.inl (by omega))), ?_,
    own_heap h.mks fun b hb => far b (h.mks.lt b hb).2 (.inr (h.mks.lt b hb).1), own_heap h.ex fun b hb => far b (h.ex.lt b hb).2 (.inr (h.ex.lt b hb).1)⟩
  intro W hWs hW
  obtain ⟨a6, c6, e6, hcell⟩ := outer_cell h.st.own.outer
  cases e6
  have hYw : w'.heap[Y]? = wa.heap[Y]? := hg.block Y (by omega) fun e => (hx Y e.symm).2.2 rfl
  refine ⟨_, _, by rw [List.length_set, ← hn], by rw [List.length_set]; unfold maxLen; omega, fun j hj => ?_⟩
  rw [List.length_set] at hj
  obtain ⟨Y', e', _, hc⟩ := hcell j (by rw [h.st.own.len]; exact hj)
  cases e'
  have hc' : w'.cell? ⟨Y, j, none⟩ = some (val us j) := (World.cell?_of_block (a := ⟨Y, j, none⟩) hYw).trans hc
  have hYs : Y < (w'.setCell ⟨Y, 0, none⟩ v').heap.size := by rw [hsz]; have := hg.size; omega
  have hWY : ∀ j, W.cell? ⟨Y, j, none⟩ = (w'.setCell ⟨Y, 0, none⟩ v').cell? ⟨Y, j, none⟩ := fun j => World.cell?_of_block (a := ⟨Y, j, none⟩) (hW Y hY0 hYs)
  have hWsz : Y < W.heap.size := Nat.lt_of_lt_of_le hYs hWs
  by_cases e : 0 = j
  · subst e
    refine ⟨Y, v', rfl, hWsz, (hWY 0).trans (World.cell?_setCell_same w' ⟨Y, 0, none⟩ v' hc'), ?_⟩
    rw [row_set hj]
    exact Ints.of_own (own_heap ho fun b hb => (hW b (ho.lt b hb).1 (by rw [hsz]; exact (ho.lt b hb).2)).trans (hst b (hvY b hb))) (by unfold maxLen; omega)
  · refine ⟨Y, val us j, rfl, hWsz, ((hWY j).trans (World.cell?_setCell_other w' ⟨Y, 0, none⟩ ⟨Y, j, none⟩ v' (by first | (simp; done) | (simp; omega)))).trans hc', ?_⟩
    rw [row_set_ne e]
    have hju : j < us.length := by rw [h.st.own.len]; exact hj
    have hrl := (h.st.own.rows j hju).lt
    refine Ints.of_own (own_heap (h.st.own.rows j hju) fun b hb => (hW b (hrl b hb).1 (by rw [hsz]; exact Nat.lt_of_lt_of_le (hrl b hb).2 hg.size)).trans ((hst b (fun e2 => h.st.own.apart0 j hju b hb (by rw [e2]; rfl))).trans (hg.block b (hrl b hb).2 fun e2 => h.st.own.apart 0 j (by omega) hju b e2.symm hb))) (by have := hr j hj; unfold maxLen; omega)
/-- .. and the relation answered. -/
theorem Sv.swapfin {w : World} {R N7 lo hi : Nat} {g : Int} {wa w' : World} {k k0 d : Nat} {us : List Value} {xss : List (List Int)} {mv : Value} {ms : List Int} {ev : Value} {es : List Int} {Y n c : Nat} {v' : Value} {ys : List Int} (h : Sv w R w.heap.size N7 lo hi g wa k (.slice (some ⟨Y, 0, none⟩) n c) us xss mv ms ev es)
    (h0 : 0 < us.length) (hn : n = xss.length) (hl : xss.length ≤ 3) (hr : ∀ j, j < xss.length → (row xss j).length ≤ 3) (hy : ys.length ≤ 3) (ho : Own w' lo v' ys) (hg : wa.grownBy w' (val us 0).ownBlock) (hk : v'.ownBlock = (val us 0).ownBlock ∨ ∃ b, v'.ownBlock = some b ∧ wa.heap.size ≤ b)
    (h3 : ms.length ≤ 4) (h4 : es.length ≤ 2) (g0 : 0 ≤ g) (g4 : g < 4) (hkd : k ≤ k0 + d) (x0 x1 x2 : Value) :
    ClaimPost R k0 d w (.returned (.tuple #[.agg #[.int .i64 g, .slice (some ⟨Y, 0, none⟩) n c, mv], ev])) ((((w'.setCell ⟨Y, 0, none⟩ v').setCell ⟨w.heap.size, 0, none⟩ x0).setCell ⟨w.heap.size, 1, none⟩ x1).setCell ⟨w.heap.size, 2, none⟩ x2) := by
  have q1 := h.st.r4; have q2 := h.st.n47; have q3 := h.st.n7; have q4 := h.st.lo0
  obtain ⟨s1, s2, _, _, s5, s6, s7⟩ := Sv.swap h h0 hn hl hr hy ho hg hk
  obtain ⟨wb, hwb⟩ : ∃ wb, wb = w'.setCell ⟨Y, 0, none⟩ v' := ⟨_, rfl⟩
  rw [← hwb] at s1 s2 s5 s6 s7 ⊢
  have hst : ∀ q, q ≠ w.heap.size → (((wb.setCell ⟨w.heap.size, 0, none⟩ x0).setCell ⟨w.heap.size, 1, none⟩ x1).setCell ⟨w.heap.size, 2, none⟩ x2).heap[q]? = wb.heap[q]? := fun q hq =>
    (Below.heap_setCell _ _ _ _ hq).trans ((Below.heap_setCell _ _ _ _ hq).trans (Below.heap_setCell _ _ _ _ hq))
  have hsz : (((wb.setCell ⟨w.heap.size, 0, none⟩ x0).setCell ⟨w.heap.size, 1, none⟩ x1).setCell ⟨w.heap.size, 2, none⟩ x2).heap.size = wb.heap.size := by simp [World.setCell]
  have hfar : ∀ {w'' : World}, Above w.heap.size (((wb.setCell ⟨w.heap.size, 0, none⟩ x0).setCell ⟨w.heap.size, 1, none⟩ x1).setCell ⟨w.heap.size, 2, none⟩ x2) w'' → ∀ q, lo ≤ q → q < wb.heap.size → w''.heap[q]? = wb.heap[q]? := fun hg q a b => (hg.2 q (by omega) (by rw [hsz]; exact b)).trans (hst q (by omega))
  refine ⟨g, _, mv, ev, xss.set 0 ys, ms, es, rfl, fun w'' hg => ⟨⟨s5 w'' (by have := hg.1; rw [hsz] at this; exact this) (hfar hg), Ints.of_own (own_heap s6 fun b hb => hfar hg b (Nat.le_trans q4 (s6.lt b hb).1) (s6.lt b hb).2) (by unfold maxLen; omega)⟩, Ints.of_own (own_heap s7 fun b hb => hfar hg b (Nat.le_trans q4 (s7.lt b hb).1) (s7.lt b hb).2) (by unfold maxLen; omega)⟩, by rw [List.length_set]; exact hl, fun j hj => ?_, h3, h4, g0, g4, ⟨capped_row h.st.own.outer, capped_row h.mks⟩, ?_, k, hkd, ?_⟩
  · rw [List.length_set] at hj
    by_cases e : 0 = j
    · subst e; rw [row_set hj]; exact hy
    · rw [row_set_ne e]; exact hr j hj
  · exact ⟨s2.os, s2.tape, s2.output, by rw [hsz]; exact s2.size, fun q a b => (hst q (by omega)).trans (s2.block q a b)⟩
  · exact s1.upto (B := R + 1) ⟨rfl, rfl, rfl, by rw [hsz]; exact Nat.le_refl _, fun q hq => hst q (by omega)⟩ (by omega)
/-- Row 0 is made longer: as it was; beside the box of what is appended; the longer row made; the longer row put in its place. -/
def Kz (w : World) (R N7 lo hi : Nat) (g : Int) (k : Nat) (Y n c : Nat) (us : List Value) (xss : List (List Int)) (mv : Value) (ms : List Int) (ev : Value) (es : List Int) : Option (Nat ⊕ (Value ⊕ Value)) → World → Prop
  | none, w' => Sv w R w.heap.size N7 lo hi g w' k (.slice (some ⟨Y, 0, none⟩) n c) us xss mv ms ev es
  | some (.inl b), w' => Sv w R w.heap.size N7 lo hi g w' k (.slice (some ⟨Y, 0, none⟩) n c) us xss mv ms ev es ∧ Box w' b [.int .i64 1]
  | some (.inr (.inl v')), w' => ∃ wa, Sv w R w.heap.size N7 lo hi g wa k (.slice (some ⟨Y, 0, none⟩) n c) us xss mv ms ev es ∧ Own w' lo v' (row xss 0 ++ [1]) ∧ wa.grownBy w' (val us 0).ownBlock ∧ (v'.ownBlock = (val us 0).ownBlock ∨ ∃ b, v'.ownBlock = some b ∧ wa.heap.size ≤ b)
  | some (.inr (.inr v')), w' => ∃ wa w1, w' = w1.setCell ⟨Y, 0, none⟩ v' ∧ Sv w R w.heap.size N7 lo hi g wa k (.slice (some ⟨Y, 0, none⟩) n c) us xss mv ms ev es ∧ Own w1 lo v' (row xss 0 ++ [1]) ∧ wa.grownBy w1 (val us 0).ownBlock ∧ (v'.ownBlock = (val us 0).ownBlock ∨ ∃ b, v'.ownBlock = some b ∧ wa.heap.size ≤ b)
theorem Kz.box7 {w : World} {R N7 lo hi : Nat} {g : Int} {k Y n c : Nat} {us : List Value} {xss : List (List Int)} {mv : Value} {ms : List Int} {ev : Value} {es : List Int} {z : Option (Nat ⊕ (Value ⊕ Value))} {w' : World} (h : Kz w R N7 lo hi g k Y n c us xss mv ms ev es z w') (h0 : 0 < us.length) :
    Box w' N7 [.int .i64 g, .slice (some ⟨Y, 0, none⟩) n c, mv] := by
  have key : ∀ {wa w1 : World}, Sv w R w.heap.size N7 lo hi g wa k (.slice (some ⟨Y, 0, none⟩) n c) us xss mv ms ev es → wa.grownBy w1 (val us 0).ownBlock → Box w1 N7 [.int .i64 g, .slice (some ⟨Y, 0, none⟩) n c, mv] := fun {wa w1} s hg => by
    have q3 := s.st.n7; have q4 := s.st.lo0; have q5 := s.st.hi0
    exact s.st.b7.kept (hg.block _ (by omega) fun e => by have := ((s.st.own.rows 0 h0).lt _ e.symm).1; omega)
  match z, h with
  | none, h => exact h.st.b7
  | some (.inl _), h => exact h.1.st.b7
  | some (.inr (.inl _)), ⟨wa, s, _, hg, _⟩ => exact key s hg
  | some (.inr (.inr v')), ⟨wa, w1, e, s, _, hg, _⟩ =>
    subst e
    refine (key s hg).kept (Below.heap_setCell _ _ _ _ ?_)
    show N7 ≠ Y
    have q3 := s.st.n7
    have := (s.st.own.outer.lt Y rfl).1
    omega
theorem Kz.build {w : World} {R N7 lo hi : Nat} {g : Int} {k Y n c : Nat} {us : List Value} {xss : List (List Int)} {mv : Value} {ms : List Int} {ev : Value} {es : List Int} {w' : World} {T : TypeId} (h : Kz w R N7 lo hi g k Y n c us xss mv ms ev es none w') :
    Kz w R N7 lo hi g k Y n c us xss mv ms ev es (some (.inl w'.heap.size)) (w'.alloc (.cells #[.int .i64 1] T)) := by
  have s : Sv w R w.heap.size N7 lo hi g w' k (.slice (some ⟨Y, 0, none⟩) n c) us xss mv ms ev es := h
  exact ⟨s.draw (grown_below R (below_grow _ _)) (s.st.rd.below (below_grow _ _)), Box.made w' [.int .i64 1] T⟩
theorem Kz.row {w : World} {R N7 lo hi : Nat} {g : Int} {k Y n c : Nat} {us : List Value} {xss : List (List Int)} {mv : Value} {ms : List Int} {ev : Value} {es : List Int} {w' : World} (h : Sv w R w.heap.size N7 lo hi g w' k (.slice (some ⟨Y, 0, none⟩) n c) us xss mv ms ev es) (h0 : 0 < us.length) :
    w'.cell? ⟨Y, 0, none⟩ = some (val us 0) := by
  obtain ⟨a6, c6, e6, hcell⟩ := outer_cell h.st.own.outer
  obtain ⟨Y', e', _, hc⟩ := hcell 0 h0
  subst e'
  cases e6
  exact hc
theorem Kz.slot {w : World} {R N7 lo hi : Nat} {g : Int} {k Y n c : Nat} {us : List Value} {xss : List (List Int)} {mv : Value} {ms : List Int} {ev : Value} {es : List Int} {v' : Value} {w' : World} (h : Kz w R N7 lo hi g k Y n c us xss mv ms ev es (some (.inr (.inl v'))) w') (h0 : 0 < us.length) :
    (∃ y, w'.cell? ⟨Y, 0, none⟩ = some y) ∧ w'.frozen? ⟨Y, 0, none⟩ = false := by
  obtain ⟨wa, s, _, hg, _⟩ := h
  obtain ⟨a6, c6, e6, _⟩ := outer_cell s.st.own.outer
  cases e6
  have hY := s.st.own.outer.lt Y rfl
  have e := hg.block Y hY.2 fun e => s.st.own.apart0 0 h0 Y e.symm rfl
  have f0 := World.ownsRow.frozenAt s.st.own.outer 0
  exact ⟨⟨_, (World.cell?_of_block (a := ⟨Y, 0, none⟩) e).trans (Kz.row s h0)⟩, by rw [← f0]; unfold World.frozen?; simp only [e]⟩
section
variable {ops : Array Oper} {md : Region.Mode} {Z : Type} {C : Z → World → Prop} {S : Nat → Bool}
/-- One operation alone may come up: one number is appended to an owned list; what is told of the longer list's block. -/
theorem wpAnyH_app2 {Q : Z → Act → Prop} {fuel i : Nat} {listed : Array Bool} {z : Z} {a : Act} {o : Oper} {d : Option Tmp} {v : Value} {xs : List Int} {y : Int} {B N : Nat} (s x : Operand)
    (hd : o.dst = d) (hr : Region.ready md ops listed = [i]) (hS : S i = true) (ho : ops[i]? = some o) (hw : Region.wanted o (yielded ops a.tmps) = true)
    (hop : o.op = .call { callee := .builtin .append, args := #[s, x], argTypes := #[24, 24] }) (hs : a.eval s = v) (hx : a.eval x = .slice (some ⟨N, 0, none⟩) 1 1)
    (h : ∀ w, C z w → Own w B v xs ∧ xs.length < 1000000000 ∧ B ≤ w.heap.size ∧ Box w N [.int .i64 y] ∧ ∀ v' w', Own w' B v' (xs ++ [y]) → w.grownBy w' v.ownBlock → (v'.ownBlock = v.ownBlock ∨ ∃ b, v'.ownBlock = some b ∧ w.heap.size ≤ b) → ∃ z', C z' w' ∧ wpAnyH Tryd.prog md ops C S Q fuel (listed.setIfInBounds i true) z' (a.put d v')) :
    wpAnyH Tryd.prog md ops C S Q (fuel + 1) listed z a := by
  refine wpAnyH_special hd hr hS ho hw fun w hc => ?_
  obtain ⟨h1, h2, h3, h4, h5⟩ := h w hc
  obtain ⟨i0, hi, hz0, hz1, hz2⟩ := info_parts infoInt
  obtain ⟨v', w', hr, k1, k2, k3⟩ := run_append_here (P := Tryd.prog) (w := w) (o := o) (a := a) s x 24 hop B 3 i0 (.int .i64 0) 1 8 Tryd.underlying24 hi hz0 hz1 hz2 rfl (by decide) v xs.length _ hs h1 ⟨N, 0, none⟩ 1 1 [.int .i64 y] hx rfl
    (fun j u hj => by
      match j, hj with
      | 0, hj => simp at hj; subst hj; have := h4.cell 0; simpa [Addr.add] using this) (fun u hu => by simp at hu; subst hu; rfl) (by unfold maxLen; omega) (by omega) h3
  obtain ⟨z', hc', hk⟩ := h5 v' w' (by unfold Own; simpa using k1) k2 (by
    rcases k3 with k3 | k3
    · exact .inl k3
    · exact .inr ⟨_, k3, Nat.le_refl _⟩)
  exact ⟨v', w', z', .inl hr, hc', hk⟩
end
end Go.Proofs.YtljekapbcphdaabDoor
