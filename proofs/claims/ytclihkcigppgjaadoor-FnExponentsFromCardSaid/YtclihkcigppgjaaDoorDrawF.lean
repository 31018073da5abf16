/- The draws of chapter 3: a relation; exponents; a question. -/
import Derived.Test.YtclihkcigppgjaaDoorDrawE
namespace Go.Proofs.YtclihkcigppgjaaDoor
open Go.RowKit

theorem code_grow {w : World} {s : Value} (h : CodeIn w s) (o : Obj) : CodeIn (w.alloc o) s := by
  rcases h with h | ⟨b, off, len, cap, z, e, g1, g2, g3, g4, g5, g6⟩
  · exact .inl h
  · exact .inr ⟨b, off, len, cap, z, e, g1, g2, g3, by simp; omega, fun j hj => (World.cell?_alloc_past _ _ _ (by simpa using g4)).trans (g5 j hj), g6⟩
/-- How long what was drawn is. -/
structure ClBd (g : Int) (rows : List (List Int)) (makes : List Int) : Prop where
  r : rows.length ≤ 3
  row : ∀ j, j < rows.length → (row rows j).length ≤ 3
  m : makes.length ≤ 4
  g0 : 0 ≤ g
  g4 : g < 4
/-- Behind the draw of a relation: the reader, the box of the result, the relation's box; lists that can be read. -/
structure Dr (w : World) (R N0 Nc : Nat) (P0 : List Value) (g : Int) (rv mv ev : Value) (rows : List (List Int)) (makes es : List Int) (wr : World) (k : Nat) : Prop where
  rd : Rd wr R k
  bl : Below w.heap.size w wr
  b0 : Box wr N0 P0
  bc : Box wr Nc [.int .i64 g, rv, mv]
  st : ∀ w'', Above R wr w'' → Cw w'' rv mv rows makes ∧ Ints w'' ev es
  n0 : w.heap.size ≤ N0
  r0 : N0 < R
  c0 : R < Nc
section
variable {w : World} {R N0 Nc : Nat} {P0 : List Value} {g : Int} {rv mv ev : Value} {rows : List (List Int)} {makes es : List Int} {wr : World} {k : Nat}
theorem Dr.draw {w' : World} {k' : Nat} (h : Dr w R N0 Nc P0 g rv mv ev rows makes es wr k) (hg : wr.grownBy w' (some R)) (hr : Rd w' R k') : Dr w R N0 Nc P0 g rv mv ev rows makes es w' k' := by
  have q1 := h.n0; have q2 := h.r0; have q3 := h.c0; have q4 := h.bl.size
  exact ⟨hr, below_of_grown h.bl hg q4 (by omega), h.b0.kept (hg.block _ h.b0.lt (fun e => by cases e; omega)), h.bc.kept (hg.block _ h.bc.lt (fun e => by cases e; omega)), fun w'' ha => h.st w'' ((Above.grown hg).trans ha), q1, q2, q3⟩
theorem Dr.on {w' : World} (h : Dr w R N0 Nc P0 g rv mv ev rows makes es wr k) (hb : Below wr.heap.size wr w') : Dr w R N0 Nc P0 g rv mv ev rows makes es w' k := h.draw (grown_below R hb) (h.rd.below hb)
theorem Dr.put {x y z : Value} (h : Dr w R N0 Nc [.int .i64 0, .slice none 0 0, .slice none 0 0] g rv mv ev rows makes es wr k) :
    Dr w R N0 Nc [x, y, z] g rv mv ev rows makes es (((wr.setCell ⟨N0, 0, none⟩ x).setCell ⟨N0, 1, none⟩ y).setCell ⟨N0, 2, none⟩ z) k := by
  have q1 := h.n0; have q2 := h.r0; have q3 := h.c0
  have hst : ∀ q, q ≠ N0 → (((wr.setCell ⟨N0, 0, none⟩ x).setCell ⟨N0, 1, none⟩ y).setCell ⟨N0, 2, none⟩ z).heap[q]? = wr.heap[q]? := fun q hq =>
    (Below.heap_setCell _ _ _ _ hq).trans ((Below.heap_setCell _ _ _ _ hq).trans (Below.heap_setCell _ _ _ _ hq))
  have hsz : (((wr.setCell ⟨N0, 0, none⟩ x).setCell ⟨N0, 1, none⟩ y).setCell ⟨N0, 2, none⟩ z).heap.size = wr.heap.size := by simp [World.setCell]
  refine ⟨?_, ((h.bl.setCell (p := ⟨N0, 0, none⟩) q1 _).setCell (p := ⟨N0, 1, none⟩) q1 _).setCell (p := ⟨N0, 2, none⟩) q1 _, ((h.b0.set 0 x).set 1 y).set 2 z, h.bc.kept (hst _ (by omega)),
    fun w'' ha => h.st w'' (((Above.set (by omega) x).trans ((Above.set (by omega) y).trans (Above.set (by omega) z))).trans ha), q1, q2, q3⟩
  have hcell : ∀ b o, b ≠ N0 → (((wr.setCell ⟨N0, 0, none⟩ x).setCell ⟨N0, 1, none⟩ y).setCell ⟨N0, 2, none⟩ z).cell? ⟨b, o, none⟩ = wr.cell? ⟨b, o, none⟩ := fun b o hb => World.cell?_of_block (a := ⟨b, o, none⟩) (hst b hb)
  obtain ⟨⟨s, hc, hs⟩, hp, hf, hl⟩ := h.rd
  refine ⟨⟨s, ?_, (hcell R 0 (by omega)).trans hs⟩, (hcell R 1 (by omega)).trans hp, ?_, by rw [hsz]; exact hl⟩
  · rcases hc with hc | ⟨b, off, len, cap, zz, e, g1, g2, g3, g4, g5⟩
    · exact .inl hc
    · refine .inr ⟨b, off, len, cap, zz, e, g1, g2, g3, fun j hj => ?_, g5⟩
      by_cases hb : b = N0
      · exfalso
        subst hb
        have q := h.b0.cell (off + j)
        have q' := g4 j hj
        rw [q] at q'
        rcases hoj : off + j with _ | _ | _ | m
        · rw [hoj] at q'; simp at q'
        · rw [hoj] at q'; simp at q'
        · rw [hoj] at q'; simp at q'
        · rw [hoj] at q'; simp at q'
      · exact (hcell b _ hb).trans (g4 j hj)
  · rw [← hf]; unfold World.frozen?; simp only [hst R (show R ≠ N0 by omega)]
end
/-- In the region of the answer: how many draws; whether the result is written; the list that was drawn. -/
def Dz (w : World) (R N0 Nc : Nat) (g : Int) (rv mv ev : Value) (rows : List (List Int)) (makes es : List Int) (z : Nat × Bool × Option (Value × List Int)) (w' : World) : Prop :=
  (∃ k', k' ≤ 100 + 10 * z.1 ∧ Dr w R N0 Nc (if z.2.1 then [.int .i64 g, rv, mv] else [.int .i64 0, .slice none 0 0, .slice none 0 0]) g rv mv ev rows makes es w' k') ∧ ∀ r, z.2.2 = some r → Own w' (Nc + 1) r.1 r.2 ∧ r.2.length ≤ 2
theorem Dz.num {w : World} {R N0 Nc : Nat} {g : Int} {rv mv ev : Value} {rows : List (List Int)} {makes es : List Int} {n : Nat} {s : Bool} {o : Option (Value × List Int)} {w1 w2 : World} {k k' : Nat} (h : Dz w R N0 Nc g rv mv ev rows makes es (n, s, o) w1) (hc : R < Nc)
    (hd : Dr w R N0 Nc (if s then [.int .i64 g, rv, mv] else [.int .i64 0, .slice none 0 0, .slice none 0 0]) g rv mv ev rows makes es w1 k) (hk : k ≤ 100 + 10 * n) (hg : w1.grownBy w2 (some R)) (hr : Rd w2 R k') (hk' : k' ≤ k + 10) : Dz w R N0 Nc g rv mv ev rows makes es (n + 1, s, o) w2 :=
  ⟨⟨k', by show k' ≤ 100 + 10 * (n + 1); omega, hd.draw hg hr⟩, fun r hr' => ⟨own_draw (h.2 r hr').1 (by omega) hg, (h.2 r hr').2⟩⟩
theorem Dz.box {w : World} {R N0 Nc : Nat} {g : Int} {rv mv ev : Value} {rows : List (List Int)} {makes es : List Int} {z : Nat × Bool × Option (Value × List Int)} {w' : World} (h : Dz w R N0 Nc g rv mv ev rows makes es z w') : Box w' Nc [.int .i64 g, rv, mv] := by
  obtain ⟨⟨_, _, hd⟩, _⟩ := h
  exact hd.bc
def DrawCPost (w : World) (e : Ending) (w' : World) : Prop :=
  ∃ (g : Int) (rv mv : Value) (rows : List (List Int)) (makes : List Int), e = .returned (.agg #[.int .i64 g, rv, mv]) ∧ Cw w' rv mv rows makes ∧ ClBd g rows makes ∧ (Capped rv ∧ Capped mv) ∧ Below w.heap.size w w'
def DrawCEPost (w : World) (e : Ending) (w' : World) : Prop :=
  ∃ (g : Int) (rv mv ev : Value) (rows : List (List Int)) (makes es : List Int), e = .returned (.tuple #[.agg #[.int .i64 g, rv, mv], ev]) ∧ Cw w' rv mv rows makes ∧ Ints w' ev es ∧ ClBd g rows makes ∧ es.length ≤ 2 ∧ Below w.heap.size w w'
def DrawCEFQPost (w : World) (e : Ending) (w' : World) : Prop :=
  ∃ (g : Int) (rv mv ev fv : Value) (q : Int) (rows : List (List Int)) (makes es fs : List Int), e = .returned (.tuple #[.agg #[.int .i64 g, rv, mv], ev, fv, .int .i64 q]) ∧ Cw w' rv mv rows makes ∧ Ints w' ev es ∧ Ints w' fv fs ∧ ClBd g rows makes ∧ es.length ≤ 2 ∧ fs.length ≤ 2 ∧ (-1 ≤ q ∧ q ≤ 23) ∧ Below w.heap.size w w'
def DrawCQEPost (w : World) (e : Ending) (w' : World) : Prop :=
  ∃ (g : Int) (rv mv ev : Value) (q : Int) (rows : List (List Int)) (makes es : List Int), e = .returned (.tuple #[.agg #[.int .i64 g, rv, mv], .int .i64 q, ev]) ∧ Cw w' rv mv rows makes ∧ Ints w' ev es ∧ ClBd g rows makes ∧ es.length ≤ 2 ∧ (-1 ≤ q ∧ q ≤ 23) ∧ Below w.heap.size w w'
end Go.Proofs.YtclihkcigppgjaaDoor
