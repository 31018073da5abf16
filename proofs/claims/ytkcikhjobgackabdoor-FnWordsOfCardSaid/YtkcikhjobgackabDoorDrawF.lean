/- The draws of chapter 3: a relation; exponents; a question. -/
import Derived.Test.YtkcikhjobgackabDoorDrawE
namespace Go.Proofs.YtkcikhjobgackabDoor
open Go.RowKit

theorem code_grow {w : World} {s : Value} (h : CodeIn w s) (o : Obj) : CodeIn (w.alloc o) s := by
  rcases h with h | ⟨b, off, len, cap, z, e, g1, g2, g3, g4, g5, g6⟩
  · exact .inl h
  · exact .inr ⟨b, off, len, cap, z, e, g1, g2, g3, by simp; omega, fun j hj => (World.cell?_alloc_past _ _ _ (by simpa using g4)).trans (g5 j hj), g6⟩
/-- How long what was drawn is. -/
structure ClBd (g : Int) (rows : List (List Int)) (makes : List Int) : Prop where
  r : rows.length ≤ 3
  row : ∀ j, j < rows.length → (row rows j).length ≤ 3
  m : makes.length ≤ 4
  g0 : 0 ≤ g
  g4 : g < 4
/-- Behind the draw of a relation: the reader, the box of the result, the relation's box; lists that can be read. -/
structure Dr (w : World) (R N0 Nc : Nat) (P0 : List Value) (g : Int) (rv mv ev : Value) (rows : List (List Int)) (makes es : List Int) (wr : World) (k : Nat) : Prop where
  rd : Rd wr R k
  bl : Below w.heap.size w wr
  b0 : Box wr N0 P0
  bc : Box wr Nc [.int .i64 g, rv, mv]
  st : ∀ w'', Above R wr w'' → Cw w'' rv mv rows makes ∧ Ints w'' ev es
  n0 : w.heap.size ≤ N0
  r0 : N0 < R
  c0 : R < Nc
section
variable {w : World} {R N0 Nc : Nat} {P0 : List Value} {g : Int} {rv mv ev : Value} {rows : List (List Int)} {makes es : List Int} {wr : World} {k : Nat}
theorem Dr.draw {w' : World} {k' : Nat} (h : Dr w R N0 Nc P0 g rv mv ev rows makes es wr k) (hg : wr.grownBy w' (some R)) (hr : Rd w' R k') : Dr w R N0 Nc P0 g rv mv ev rows makes es w' k' := by
  have q1 := h.n0; have q2 := h.r0; have q3 := h.c0; have q4 := h.bl.size
  exact ⟨hr, below_of_grown h.bl hg q4 (by omega), h.b0.kept (hg.block _ h.b0.lt (fun e => by cases e; omega)), h.bc.kept (hg.block _ h.bc.lt (fun e => by cases e; omega)), fun w'' ha => h.st w'' ((Above.grown hg).trans ha), q1, q2, q3⟩
theorem Dr.on {w' : World} (h : Dr w R N0 Nc P0 g rv mv ev rows makes es wr k) (hb : Below wr.heap.size wr w') : Dr w R N0 Nc P0 g rv mv ev rows makes es w' k := h.draw (grown_below R hb) (h.rd.below hb)
theorem Dr.put {x y z : Value} (h : Dr w R N0 Nc [.int .i64 0, .slice none 0 0, .slice none 0 0] g rv mv ev rows makes es wr k) :
    Dr w R N0 Nc [x, y, z] g rv mv ev rows makes es (((wr.setCell ⟨N0, 0, none⟩ x).setCell ⟨N0, 1, none⟩ y).setCell ⟨N0, 2, none⟩ z) k := by
  have q1 := h.n0; have q2 := h.r0; have q3 := h.c0
  have hst : ∀ q, q ≠ N0 → (((wr.setCell ⟨N0, 0, none⟩ x).setCell ⟨N0, 1, none⟩ y).setCell ⟨N0, 2, none⟩ z).heap[q]? = wr.heap[q]? := fun q hq =>
    (Below.heap_setCell _ _ _ _ hq).trans ((Below.heap_setCell _ _ _ _ hq).trans (Below.heap_setCell _ _ _ _ hq))
  have hsz : (((wr.setCell ⟨N0, 0, none⟩ x).setCell ⟨N0, 1, none⟩ y).setCell ⟨N0, 2, none⟩ z).heap.size = wr.heap.size := by simp [World.setCell]
  refine ⟨?_, ((h.bl.setCell (p := ⟨N0, 0, none⟩) q1 _).setCell (p := ⟨N0, 1, none⟩) q1 _).setCell (p := ⟨N0, 2, none⟩) q1 _, ((h.b0.set 0 x).set 1 y).set 2 z, h.bc.kept (hst _ (by omega)),
    fun w'' ha => h.st w'' (((Above.set (by omega) x).trans ((Above.set (by omega) y).trans (Above.set (by omega) z))).trans ha), q1, q2, q3⟩
  have hcell : ∀ b o, b ≠ N0 → (((wr.setCell ⟨N0, 0, none⟩ x).setCell ⟨N0, 1, none⟩ y).setCell ⟨N0, 2, none⟩ z).cell? ⟨b, o, none⟩ = wr.cell? ⟨b, o, none⟩ := fun b o hb => World.cell?_of_block (a := ⟨b, o, none⟩) (hst b hb)
  obtain ⟨⟨s, hc, hs⟩, hp, hf, hl⟩ := h.rd
  refine ⟨⟨s, ?_, (hcell R 0 (by omega)).trans hs⟩, (hcell R 1 (by omega)).trans hp, ?_, by rw [hsz]; exact hl⟩
  · rcases hc with hc | ⟨b, off, len, cap, zz, e, g1, g2, g3, g4, g5⟩
    · exact .inl hc
    · refine .inr ⟨b, off, len, cap, zz, e, g1, g2, g3, fun j hj => ?_, g5⟩
      by_cases hb : b = N0
      · exfalso
        subst hb
        have q := h.b0.cell (off + j)
        have q' := g4 j hj
        rw [q] at q'
        rcases hoj : off + j with _ | _ | _ | m
        · rw [hoj] at q'; simp at q'
        · rw [hoj] at q'; simp at q'
        · rw [hoj] at q'; simp at q'
        · rw [hoj] at q'; simp at q'
      · exact (hcell b _ hb).trans (g4 j hj)
  · rw [← hf]; unfold World.frozen?; simp only [hst R (show R ≠ N0 by omega)]
end
/-- In the region of the answer: how many draws; whether the result is written; the list that was drawn. -/
def Dz (w : World) (R N0 Nc : Nat) (g : Int) (rv mv ev : Value) (rows : List (List Int)) (makes es : List Int) (z : Nat × Bool × Option (Value × List Int)) (w' : World) : Prop :=
  (∃ k', k' ≤ 100 + 10 * z.1 ∧ Dr w R N0 Nc (if z.2.1 then [.int .i64 g, rv, mv] else [.int .i64 0, .slice none 0 0, .slice none 0 0]) g rv mv ev rows makes es w' k') ∧ ∀ r, z.2.2 = some r → Own w' (Nc + 1) r.1 r.2 ∧ r.2.length ≤ 2
theorem Dz.num {w : World} {R N0 Nc : Nat} {g : Int} {rv mv ev : Value} {rows : List (List Int)} {makes es : List Int} {n : Nat} {s : Bool} {o : Option (Value × List Int)} {w1 w2 : World} {k k' : Nat} (h : Dz w R N0 Nc g rv mv ev rows makes es (n, s, o) w1) (hc : R < Nc)
    (hd : Dr w R N0 Nc (if s then [.int .i64 g, rv, mv] else [.int .i64 0, .slice none 0 0, .slice none 0 0]) g rv mv ev rows makes es w1 k) (hk : k ≤ 100 + 10 * n) (hg : w1.grownBy w2 (some R)) (hr : Rd w2 R k') (hk' : k' ≤ k + 10) : Dz w R N0 Nc g rv mv ev rows makes es (n + 1, s, o) w2 :=
  ⟨⟨k', by show k' ≤ 100 + 10 * (n + 1); omega, hd.draw hg hr⟩, fun r hr' => ⟨own_draw (h.2 r hr').1 (by omega) hg, (h.2 r hr').2⟩⟩
theorem Dz.box {w : World} {R N0 Nc : Nat} {g : Int} {rv mv ev : Value} {rows : List (List Int)} {makes es : List Int} {z : Nat × Bool × Option (Value × List Int)} {w' : World} (h : Dz w R N0 Nc g rv mv ev rows makes es z w') : Box w' Nc [.int .i64 g, rv, mv] := by
  obtain ⟨⟨_, _, hd⟩, _⟩ := h
  exact hd.bc
def DrawCPost (w : World) (e : Ending) (w' : World) : Prop :=
  ∃ (g : Int) (rv mv : Value) (rows : List (List Int)) (makes : List Int), e = .returned (.agg #[.int .i64 g, rv, mv]) ∧ Cw w' rv mv rows makes ∧ ClBd g rows makes ∧ (Capped rv ∧ Capped mv) ∧ Below w.heap.size w w'
def DrawCEPost (w : World) (e : Ending) (w' : World) : Prop :=
  ∃ (g : Int) (rv mv ev : Value) (rows : List (List Int)) (makes es : List Int), e = .returned (.tuple #[.agg #[.int .i64 g, rv, mv], ev]) ∧ Cw w' rv mv rows makes ∧ Ints w' ev es ∧ ClBd g rows makes ∧ es.length ≤ 2 ∧ Below w.heap.size w w'
def DrawCEFQPost (w : World) (e : Ending) (w' : World) : Prop :=
  ∃ (g : Int) (rv mv ev fv : Value) (q : Int) (rows : List (List Int)) (makes es fs : List Int), e = .returned (.tuple #[.agg #[.int .i64 g, rv, mv], ev, fv, .int .i64 q]) ∧ Cw w' rv mv rows makes ∧ Ints w' ev es ∧ Ints w' fv fs ∧ ClBd g rows makes ∧ es.length ≤ 2 ∧ fs.length ≤ 2 ∧ (-1 ≤ q ∧ q ≤ 23) ∧ Below w.heap.size w w'
def DrawCQEPost (w : World) (e : Ending) (w' : World) : Prop :=
  ∃ (g : Int) (rv mv ev : Value) (q : Int) (rows : List (List Int)) (makes es : List Int), e = .returned (.tuple #[.agg #[.int .i64 g, rv, mv], .int .i64 q, ev]) ∧ Cw w' rv mv rows makes ∧ Ints w' ev es ∧ ClBd g rows makes ∧ es.length ≤ 2 ∧ (-1 ≤ q ∧ q ≤ 23) ∧ Below w.heap.size w w'
theorem drawClaimOk_any (s : Value) (w : World) (h : CodeIn w s) : Calls Tryd.prog 11 #[s] w (DrawCPost w) := by
  have H := Lib.hid (code_grow h (.cells #[.int .i64 0, .slice none 0 0, .slice none 0 0] 26))
  have X0 := Lib.hid (Box.made w [.int .i64 0, .slice none 0 0, .slice none 0 0] 26)
  have B0 := Lib.hid (below_grow w (.cells #[.int .i64 0, .slice none 0 0, .slice none 0 0] 26))
  clear h
  go_enter Tryd.func11, Tryd.ntmps11
  go_wp2_with fail
  refine (open_any _ _ H.out).mono ?_
  rintro e w1 ⟨rfl, H1, hb1⟩
  rw [World.size_alloc] at H1 hb1 ⊢
  have RD1 := Lib.hid H1
  have X1 := Lib.hid (X0.out.on (by rw [World.size_alloc]; exact hb1))
  have B1 := Lib.hid (B0.out.trans (hb1.mono (by omega)))
  clear H1 hb1 X0 B0
  go_wp2_with fail
  refine (drawclaim_any _ _ _ _ RD1.out (by omega) (by omega) (by omega)).mono ?_
  rintro e w2 ⟨g, rv, mv, ev, rows, makes, es, rfl, hst, l1, l2, l3, l4, h0, h4, hcap, hg, k2, hk2, hr⟩
  obtain ⟨ra, rc, er, _⟩ := (hst _ (Above.refl _ _)).1.rows.opened
  obtain ⟨ma, mc, em, _⟩ := (hst _ (Above.refl _ _)).1.makes.opened
  subst er em
  have hlt := RD1.out.lt
  have CB := Lib.hid (show ClBd g rows makes from ⟨l1, l2, l3, h0, h4⟩)
  have CP := Lib.hid hcap
  have D2 : Hid (Dr w (w.heap.size + 1) w.heap.size w2.heap.size [.int .i64 0, .slice none 0 0, .slice none 0 0] g (.slice ra rows.length rc) (.slice ma makes.length mc) ev rows makes es (w2.alloc (.cells #[.int .i64 g, (.slice ra rows.length rc), (.slice ma makes.length mc)] 26)) k2) := Lib.hid ⟨hr.below (below_grow _ _), (below_of_grown B1.out hg (by omega) (by omega)).trans ((below_grow w2 _).mono (by have := hg.size; omega)), (X1.out.kept (hg.block _ X1.out.lt (fun e => by simp at e))).alloc _, Box.made w2 _ _,
    fun w'' ha => hst w'' ((Above.below (below_grow w2 _)).trans ha), Nat.le_refl _, Nat.lt_succ_self _, Nat.lt_of_lt_of_le hlt hg.size⟩
  have hs2 : w.heap.size + 1 < w2.heap.size := Nat.lt_of_lt_of_le hlt hg.size
  have hk2' : k2 ≤ 60 := by omega
  clear X1 B1 RD1 hst l1 l2 l3 hcap hg hr hlt hk2
  have p0 := D2.out.bc.cell 0
  have p1 := D2.out.bc.cell 1
  have p2 := D2.out.bc.cell 2
  have r0 := D2.out.b0.cell 0
  have r1 := D2.out.b0.cell 1
  have r2 := D2.out.b0.cell 2
  have f0 := D2.out.b0.frozen 0
  have f1 := D2.out.b0.frozen 1
  have f2 := D2.out.b0.frozen 2
  simp at p0 p1 p2 r0 r1 r2
  go_wp2
  refine bodyPost_ret (v := .agg #[.int .i64 g, (.slice ra rows.length rc), (.slice ma makes.length mc)]) ?_ rfl ?_
  · simp [results, Tryd.results11, go_sem, r0, r1, r2]
  · have D3 := D2.out.put (x := .int .i64 g) (y := (.slice ra rows.length rc)) (z := (.slice ma makes.length mc))
    exact ⟨g, (.slice ra rows.length rc), (.slice ma makes.length mc), rows, makes, rfl, (D3.st _ (Above.refl _ _)).1, CB.out, CP.out, D3.bl⟩

theorem drawSolutionsOf_any (s : Value) (w : World) (h : CodeIn w s) : Calls Tryd.prog 24 #[s] w (DrawCPost w) := by
  have H := Lib.hid (code_grow h (.cells #[.int .i64 0, .slice none 0 0, .slice none 0 0] 26))
  have X0 := Lib.hid (Box.made w [.int .i64 0, .slice none 0 0, .slice none 0 0] 26)
  have B0 := Lib.hid (below_grow w (.cells #[.int .i64 0, .slice none 0 0, .slice none 0 0] 26))
  clear h
  go_enter Tryd.func24, Tryd.ntmps24
  go_wp2_with fail
  refine (open_any _ _ H.out).mono ?_
  rintro e w1 ⟨rfl, H1, hb1⟩
  rw [World.size_alloc] at H1 hb1 ⊢
  have RD1 := Lib.hid H1
  have X1 := Lib.hid (X0.out.on (by rw [World.size_alloc]; exact hb1))
  have B1 := Lib.hid (B0.out.trans (hb1.mono (by omega)))
  clear H1 hb1 X0 B0
  go_wp2_with fail
  refine (drawclaim_any _ _ _ _ RD1.out (by omega) (by omega) (by omega)).mono ?_
  rintro e w2 ⟨g, rv, mv, ev, rows, makes, es, rfl, hst, l1, l2, l3, l4, h0, h4, hcap, hg, k2, hk2, hr⟩
  obtain ⟨ra, rc, er, _⟩ := (hst _ (Above.refl _ _)).1.rows.opened
  obtain ⟨ma, mc, em, _⟩ := (hst _ (Above.refl _ _)).1.makes.opened
  subst er em
  have hlt := RD1.out.lt
  have CB := Lib.hid (show ClBd g rows makes from ⟨l1, l2, l3, h0, h4⟩)
  have CP := Lib.hid hcap
  have D2 : Hid (Dr w (w.heap.size + 1) w.heap.size w2.heap.size [.int .i64 0, .slice none 0 0, .slice none 0 0] g (.slice ra rows.length rc) (.slice ma makes.length mc) ev rows makes es (w2.alloc (.cells #[.int .i64 g, (.slice ra rows.length rc), (.slice ma makes.length mc)] 26)) k2) := Lib.hid ⟨hr.below (below_grow _ _), (below_of_grown B1.out hg (by omega) (by omega)).trans ((below_grow w2 _).mono (by have := hg.size; omega)), (X1.out.kept (hg.block _ X1.out.lt (fun e => by simp at e))).alloc _, Box.made w2 _ _,
    fun w'' ha => hst w'' ((Above.below (below_grow w2 _)).trans ha), Nat.le_refl _, Nat.lt_succ_self _, Nat.lt_of_lt_of_le hlt hg.size⟩
  have hs2 : w.heap.size + 1 < w2.heap.size := Nat.lt_of_lt_of_le hlt hg.size
  have hk2' : k2 ≤ 60 := by omega
  clear X1 B1 RD1 hst l1 l2 l3 hcap hg hr hlt hk2
  have p0 := D2.out.bc.cell 0
  have p1 := D2.out.bc.cell 1
  have p2 := D2.out.bc.cell 2
  have r0 := D2.out.b0.cell 0
  have r1 := D2.out.b0.cell 1
  have r2 := D2.out.b0.cell 2
  have f0 := D2.out.b0.frozen 0
  have f1 := D2.out.b0.frozen 1
  have f2 := D2.out.b0.frozen 2
  simp at p0 p1 p2 r0 r1 r2
  go_wp2
  refine bodyPost_ret (v := .agg #[.int .i64 g, (.slice ra rows.length rc), (.slice ma makes.length mc)]) ?_ rfl ?_
  · simp [results, Tryd.results24, go_sem, r0, r1, r2]
  · have D3 := D2.out.put (x := .int .i64 g) (y := (.slice ra rows.length rc)) (z := (.slice ma makes.length mc))
    exact ⟨g, (.slice ra rows.length rc), (.slice ma makes.length mc), rows, makes, rfl, (D3.st _ (Above.refl _ _)).1, CB.out, CP.out, D3.bl⟩

set_option maxHeartbeats 1600000 in
theorem drawRowsMake_any (s : Value) (w : World) (h : CodeIn w s) : Calls Tryd.prog 15 #[s] w (DrawCEPost w) := by
  have H := Lib.hid (code_grow h (.cells #[.int .i64 0, .slice none 0 0, .slice none 0 0] 26))
  have X0 := Lib.hid (Box.made w [.int .i64 0, .slice none 0 0, .slice none 0 0] 26)
  have B0 := Lib.hid (below_grow w (.cells #[.int .i64 0, .slice none 0 0, .slice none 0 0] 26))
  clear h
  go_enter Tryd.func15, Tryd.ntmps15
  go_wp2_with fail
  refine (open_any _ _ H.out).mono ?_
  rintro e w1 ⟨rfl, H1, hb1⟩
  rw [World.size_alloc] at H1 hb1 ⊢
  have RD1 := Lib.hid H1
  have X1 := Lib.hid (X0.out.on (by rw [World.size_alloc]; exact hb1))
  have B1 := Lib.hid (B0.out.trans (hb1.mono (by omega)))
  clear H1 hb1 X0 B0
  go_wp2_with fail
  refine (drawclaim_any _ _ _ _ RD1.out (by omega) (by omega) (by omega)).mono ?_
  rintro e w2 ⟨g, rv, mv, ev, rows, makes, es, rfl, hst, l1, l2, l3, l4, h0, h4, hcap, hg, k2, hk2, hr⟩
  obtain ⟨ra, rc, er, _⟩ := (hst _ (Above.refl _ _)).1.rows.opened
  obtain ⟨ma, mc, em, _⟩ := (hst _ (Above.refl _ _)).1.makes.opened
  subst er em
  have hlt := RD1.out.lt
  have CB := Lib.hid (show ClBd g rows makes from ⟨l1, l2, l3, h0, h4⟩)
  have CP := Lib.hid hcap
  have D2 : Hid (Dr w (w.heap.size + 1) w.heap.size w2.heap.size [.int .i64 0, .slice none 0 0, .slice none 0 0] g (.slice ra rows.length rc) (.slice ma makes.length mc) ev rows makes es (w2.alloc (.cells #[.int .i64 g, (.slice ra rows.length rc), (.slice ma makes.length mc)] 26)) k2) := Lib.hid ⟨hr.below (below_grow _ _), (below_of_grown B1.out hg (by omega) (by omega)).trans ((below_grow w2 _).mono (by have := hg.size; omega)), (X1.out.kept (hg.block _ X1.out.lt (fun e => by simp at e))).alloc _, Box.made w2 _ _,
    fun w'' ha => hst w'' ((Above.below (below_grow w2 _)).trans ha), Nat.le_refl _, Nat.lt_succ_self _, Nat.lt_of_lt_of_le hlt hg.size⟩
  have hs2 : w.heap.size + 1 < w2.heap.size := Nat.lt_of_lt_of_le hlt hg.size
  have hk2' : k2 ≤ 60 := by omega
  clear X1 B1 RD1 hst l1 l2 l3 hcap hg hr hlt hk2
  have HD : Hid (Dz w (w.heap.size + 1) w.heap.size w2.heap.size g (.slice ra rows.length rc) (.slice ma makes.length mc) ev rows makes es (0, false, none) (w2.alloc (.cells #[.int .i64 g, (.slice ra rows.length rc), (.slice ma makes.length mc)] 26)).drew) := Lib.hid ⟨⟨_, by show _ ≤ 100 + 10 * 0; omega, D2.out.on ((Below.refl _ _).drew)⟩, fun r hr => by cases hr⟩
  have hRc : w.heap.size + 1 < w2.heap.size := hs2
  clear D2
  go_wp2_with fail
  apply wp_region_H (Z := Nat × Bool × Option (Value × List Int)) (S := fun k => k == 3 || k == 4) (C := fun z w' => Hid (Dz w (w.heap.size + 1) w.heap.size w2.heap.size g (.slice ra rows.length rc) (.slice ma makes.length mc) ev rows makes es z w')) [0, 1, 2] (0, false, none)
  · kernel_rfl
  · kernel_rfl
  · kernel_rfl
  · exact ⟨rfl, rfl, rfl, trivial⟩
  · rfl
  · decide
  · exact HD
  · intro z
    dsimp only [pickL, nthO]
    repeat (first | go_big_quiet_skip | (go_big_quiet_want; go_big_quiet_op; first | go_big_quiet_on | (refine ⟨_, fun _ _ => rfl, ?_⟩; go_big_quiet_on)))
    go_big_quiet_want
    go_big_quiet_op
    refine ⟨.agg #[.int .i64 g, (.slice ra rows.length rc), (.slice ma makes.length mc)], fun w' hw' => ?_, ?_⟩
    · have q0 := (Dz.box hw'.out).cell 0; have q1 := (Dz.box hw'.out).cell 1; have q2 := (Dz.box hw'.out).cell 2
      simp at q0 q1 q2
      simp [go_sem, q0, q1, q2]
    go_big_quiet_on
    repeat (first | go_big_quiet_skip | (go_big_quiet_want; go_big_quiet_op; first | go_big_quiet_on | (refine ⟨_, fun _ _ => rfl, ?_⟩; go_big_quiet_on)))
    repeat (first | go_big_quiet_skip | (go_big_quiet_want; go_big_quiet_op; first | go_big_quiet_on | (refine ⟨_, fun _ _ => rfl, ?_⟩; go_big_quiet_on)))
    go_big_quiet_want
    go_big_quiet_op
    refine ⟨.agg #[.int .i64 g, (.slice ra rows.length rc), (.slice ma makes.length mc)], fun w' hw' => ?_, ?_⟩
    · have q0 := (Dz.box hw'.out).cell 0; have q1 := (Dz.box hw'.out).cell 1; have q2 := (Dz.box hw'.out).cell 2
      simp at q0 q1 q2
      simp [go_sem, q0, q1, q2]
    go_big_quiet_on
    repeat (first | go_big_quiet_skip | (go_big_quiet_want; go_big_quiet_op; first | go_big_quiet_on | (refine ⟨_, fun _ _ => rfl, ?_⟩; go_big_quiet_on)))
    exact wpQuiet_nil rfl
  · skip
    refine wpAnyH_call (i := 3) (d := some 17) 49 #[.pointer (some ⟨w.heap.size + 1, 0, none⟩), .agg #[.int .i64 g, (.slice ra rows.length rc), (.slice ma makes.length mc)]] rfl (by kernel_rfl) rfl rfl (by kernel_rfl) (fun _ => by kernel_rfl) fun wa hc => ?_
    obtain ⟨ka, hka, hd⟩ := hc.out.1
    refine (drawexps_any _ ka g (.slice ra rows.length rc) (.slice ma makes.length mc) rows makes _ hd.rd (by simp at hka; omega) (fun w' ha => (hd.st w' ha).1)).mono ?_
    rintro e wb ⟨fv, fs, rfl, o4, hfl, _, g4, k4, hk4, r4⟩
    refine ⟨_, rfl, (1, false, some (fv, fs)), Lib.hid ⟨(hc.out.num hRc hd hka g4 r4 (by omega)).1, fun r hr => by cases hr; exact ⟨own_mono o4 (by have := hd.bc.lt; omega), hfl⟩⟩, ?_⟩
    clear o4 hk4 r4 g4 hd hka hc
    refine wpAnyH_special (i := 4) (d := none) rfl (by kernel_rfl) rfl rfl (by kernel_rfl) fun we he => ?_
    obtain ⟨⟨ke, hke, hd⟩, ho⟩ := he.out
    have r0 := hd.b0.cell 0; have r1 := hd.b0.cell 1; have r2 := hd.b0.cell 2
    have f0 := hd.b0.frozen 0; have f1 := hd.b0.frozen 1; have f2 := hd.b0.frozen 2
    simp at r0 r1 r2
    refine ⟨undef, ((we.setCell ⟨w.heap.size, 0, none⟩ (.int .i64 g)).setCell ⟨w.heap.size, 1, none⟩ (.slice ra rows.length rc)).setCell ⟨w.heap.size, 2, none⟩ (.slice ma makes.length mc), (1, true, some (fv, fs)), .inr ⟨by simp [go_sem, Act.put, r0, r1, r2, f0, f1, f2], rfl⟩, Lib.hid ⟨⟨ke, hke, hd.put⟩, fun r hr => ?_⟩, ?_⟩
    · obtain ⟨o, l⟩ := ho r hr
      refine ⟨own_heap o fun b hb => ?_, l⟩
      have := (o.lt b hb).1
      exact (Below.heap_setCell _ _ _ _ (by show b ≠ w.heap.size; omega)).trans ((Below.heap_setCell _ _ _ _ (by show b ≠ w.heap.size; omega)).trans (Below.heap_setCell _ _ _ _ (by show b ≠ w.heap.size; omega)))
    clear hd ho hke he r0 r1 r2 f0 f1 f2
    refine wpAnyH_assign (i := 5) (d := some 3) (.tmp 17) rfl (by kernel_rfl) rfl rfl (by kernel_rfl) rfl ?_
    refine ⟨by kernel_rfl, fun wz hz => ?_⟩
    simp only [Act.put, Act.eval]
    obtain ⟨⟨kz, _, hd⟩, ho⟩ := hz.out
    obtain ⟨oz, lz⟩ := ho (fv, fs) rfl
    have DF := Lib.hid hd
    have OF := Lib.hid oz
    have r0 := hd.b0.cell 0; have r1 := hd.b0.cell 1; have r2 := hd.b0.cell 2
    simp at r0 r1 r2
    clear hd ho oz hz HD
    go_wp2
    refine bodyPost_ret (v := .tuple #[.agg #[.int .i64 g, (.slice ra rows.length rc), (.slice ma makes.length mc)], fv]) ?_ rfl ?_
    · simp [results, Tryd.results15, go_sem, r0, r1, r2]
    · exact ⟨g, (.slice ra rows.length rc), (.slice ma makes.length mc), fv, rows, makes, fs, rfl, (DF.out.st _ (Above.refl _ _)).1, Ints.of_own OF.out (by unfold maxLen; omega), CB.out, lz, DF.out.bl⟩

set_option maxHeartbeats 1600000 in
theorem drawSolves_any (s : Value) (w : World) (h : CodeIn w s) : Calls Tryd.prog 21 #[s] w (DrawCEPost w) := by
  have H := Lib.hid (code_grow h (.cells #[.int .i64 0, .slice none 0 0, .slice none 0 0] 26))
  have X0 := Lib.hid (Box.made w [.int .i64 0, .slice none 0 0, .slice none 0 0] 26)
  have B0 := Lib.hid (below_grow w (.cells #[.int .i64 0, .slice none 0 0, .slice none 0 0] 26))
  clear h
  go_enter Tryd.func21, Tryd.ntmps21
  go_wp2_with fail
  refine (open_any _ _ H.out).mono ?_
  rintro e w1 ⟨rfl, H1, hb1⟩
  rw [World.size_alloc] at H1 hb1 ⊢
  have RD1 := Lib.hid H1
  have X1 := Lib.hid (X0.out.on (by rw [World.size_alloc]; exact hb1))
  have B1 := Lib.hid (B0.out.trans (hb1.mono (by omega)))
  clear H1 hb1 X0 B0
  go_wp2_with fail
  refine (drawclaim_any _ _ _ _ RD1.out (by omega) (by omega) (by omega)).mono ?_
  rintro e w2 ⟨g, rv, mv, ev, rows, makes, es, rfl, hst, l1, l2, l3, l4, h0, h4, hcap, hg, k2, hk2, hr⟩
  obtain ⟨ra, rc, er, _⟩ := (hst _ (Above.refl _ _)).1.rows.opened
  obtain ⟨ma, mc, em, _⟩ := (hst _ (Above.refl _ _)).1.makes.opened
  subst er em
  have hlt := RD1.out.lt
  have CB := Lib.hid (show ClBd g rows makes from ⟨l1, l2, l3, h0, h4⟩)
  have CP := Lib.hid hcap
  have D2 : Hid (Dr w (w.heap.size + 1) w.heap.size w2.heap.size [.int .i64 0, .slice none 0 0, .slice none 0 0] g (.slice ra rows.length rc) (.slice ma makes.length mc) ev rows makes es (w2.alloc (.cells #[.int .i64 g, (.slice ra rows.length rc), (.slice ma makes.length mc)] 26)) k2) := Lib.hid ⟨hr.below (below_grow _ _), (below_of_grown B1.out hg (by omega) (by omega)).trans ((below_grow w2 _).mono (by have := hg.size; omega)), (X1.out.kept (hg.block _ X1.out.lt (fun e => by simp at e))).alloc _, Box.made w2 _ _,
    fun w'' ha => hst w'' ((Above.below (below_grow w2 _)).trans ha), Nat.le_refl _, Nat.lt_succ_self _, Nat.lt_of_lt_of_le hlt hg.size⟩
  have hs2 : w.heap.size + 1 < w2.heap.size := Nat.lt_of_lt_of_le hlt hg.size
  have hk2' : k2 ≤ 60 := by omega
  clear X1 B1 RD1 hst l1 l2 l3 hcap hg hr hlt hk2
  go_wp2_with fail
  refine (pick_any _ _ _ _ D2.out.rd (by omega)).mono ?_
  rintro e w3 ⟨p, rfl, p0, p1, mm, hw3⟩
  have D3 := Lib.hid (show Dr w (w.heap.size + 1) w.heap.size w2.heap.size [.int .i64 0, .slice none 0 0, .slice none 0 0] g (.slice ra rows.length rc) (.slice ma makes.length mc) ev rows makes es w3 (k2 + 1) by rw [hw3]; exact D2.out.draw (grown_pick _ _ _ mm) (D2.out.rd.next mm))
  clear hw3 D2 p1
  by_cases hp : p = 0
  · subst hp
    have HD : Hid (Dz w (w.heap.size + 1) w.heap.size w2.heap.size g (.slice ra rows.length rc) (.slice ma makes.length mc) ev rows makes es (0, false, none) w3.drew) := Lib.hid ⟨⟨_, by show _ ≤ 100 + 10 * 0; omega, D3.out.on ((Below.refl _ _).drew)⟩, fun r hr => by cases hr⟩
    have hRc : w.heap.size + 1 < w2.heap.size := hs2
    clear D3
    go_wp2_with fail
    apply wp_region_H (Z := Nat × Bool × Option (Value × List Int)) (S := fun k => k == 3 || k == 4) (C := fun z w' => Hid (Dz w (w.heap.size + 1) w.heap.size w2.heap.size g (.slice ra rows.length rc) (.slice ma makes.length mc) ev rows makes es z w')) [0, 1, 2] (0, false, none)
    · kernel_rfl
    · kernel_rfl
    · kernel_rfl
    · exact ⟨rfl, rfl, rfl, trivial⟩
    · rfl
    · decide
    · exact HD
    · intro z
      dsimp only [pickL, nthO]
      repeat (first | go_big_quiet_skip | (go_big_quiet_want; go_big_quiet_op; first | go_big_quiet_on | (refine ⟨_, fun _ _ => rfl, ?_⟩; go_big_quiet_on)))
      go_big_quiet_want
      go_big_quiet_op
      refine ⟨.agg #[.int .i64 g, (.slice ra rows.length rc), (.slice ma makes.length mc)], fun w' hw' => ?_, ?_⟩
      · have q0 := (Dz.box hw'.out).cell 0; have q1 := (Dz.box hw'.out).cell 1; have q2 := (Dz.box hw'.out).cell 2
        simp at q0 q1 q2
        simp [go_sem, q0, q1, q2]
      go_big_quiet_on
      repeat (first | go_big_quiet_skip | (go_big_quiet_want; go_big_quiet_op; first | go_big_quiet_on | (refine ⟨_, fun _ _ => rfl, ?_⟩; go_big_quiet_on)))
      repeat (first | go_big_quiet_skip | (go_big_quiet_want; go_big_quiet_op; first | go_big_quiet_on | (refine ⟨_, fun _ _ => rfl, ?_⟩; go_big_quiet_on)))
      go_big_quiet_want
      go_big_quiet_op
      refine ⟨.agg #[.int .i64 g, (.slice ra rows.length rc), (.slice ma makes.length mc)], fun w' hw' => ?_, ?_⟩
      · have q0 := (Dz.box hw'.out).cell 0; have q1 := (Dz.box hw'.out).cell 1; have q2 := (Dz.box hw'.out).cell 2
        simp at q0 q1 q2
        simp [go_sem, q0, q1, q2]
      go_big_quiet_on
      repeat (first | go_big_quiet_skip | (go_big_quiet_want; go_big_quiet_op; first | go_big_quiet_on | (refine ⟨_, fun _ _ => rfl, ?_⟩; go_big_quiet_on)))
      exact wpQuiet_nil rfl
    · skip
      refine wpAnyH_call (i := 3) (d := some 20) 49 #[.pointer (some ⟨w.heap.size + 1, 0, none⟩), .agg #[.int .i64 g, (.slice ra rows.length rc), (.slice ma makes.length mc)]] rfl (by kernel_rfl) rfl rfl (by kernel_rfl) (fun _ => by kernel_rfl) fun wa hc => ?_
      obtain ⟨ka, hka, hd⟩ := hc.out.1
      refine (drawexps_any _ ka g (.slice ra rows.length rc) (.slice ma makes.length mc) rows makes _ hd.rd (by simp at hka; omega) (fun w' ha => (hd.st w' ha).1)).mono ?_
      rintro e wb ⟨fv, fs, rfl, o4, hfl, _, g4, k4, hk4, r4⟩
      refine ⟨_, rfl, (1, false, some (fv, fs)), Lib.hid ⟨(hc.out.num hRc hd hka g4 r4 (by omega)).1, fun r hr => by cases hr; exact ⟨own_mono o4 (by have := hd.bc.lt; omega), hfl⟩⟩, ?_⟩
      clear o4 hk4 r4 g4 hd hka hc
      refine wpAnyH_special (i := 4) (d := none) rfl (by kernel_rfl) rfl rfl (by kernel_rfl) fun we he => ?_
      obtain ⟨⟨ke, hke, hd⟩, ho⟩ := he.out
      have r0 := hd.b0.cell 0; have r1 := hd.b0.cell 1; have r2 := hd.b0.cell 2
      have f0 := hd.b0.frozen 0; have f1 := hd.b0.frozen 1; have f2 := hd.b0.frozen 2
      simp at r0 r1 r2
      refine ⟨undef, ((we.setCell ⟨w.heap.size, 0, none⟩ (.int .i64 g)).setCell ⟨w.heap.size, 1, none⟩ (.slice ra rows.length rc)).setCell ⟨w.heap.size, 2, none⟩ (.slice ma makes.length mc), (1, true, some (fv, fs)), .inr ⟨by simp [go_sem, Act.put, r0, r1, r2, f0, f1, f2], rfl⟩, Lib.hid ⟨⟨ke, hke, hd.put⟩, fun r hr => ?_⟩, ?_⟩
      · obtain ⟨o, l⟩ := ho r hr
        refine ⟨own_heap o fun b hb => ?_, l⟩
        have := (o.lt b hb).1
        exact (Below.heap_setCell _ _ _ _ (by show b ≠ w.heap.size; omega)).trans ((Below.heap_setCell _ _ _ _ (by show b ≠ w.heap.size; omega)).trans (Below.heap_setCell _ _ _ _ (by show b ≠ w.heap.size; omega)))
      clear hd ho hke he r0 r1 r2 f0 f1 f2
      refine wpAnyH_assign (i := 5) (d := some 3) (.tmp 20) rfl (by kernel_rfl) rfl rfl (by kernel_rfl) rfl ?_
      refine ⟨by kernel_rfl, fun wz hz => ?_⟩
      simp only [Act.put, Act.eval]
      obtain ⟨⟨kz, _, hd⟩, ho⟩ := hz.out
      obtain ⟨oz, lz⟩ := ho (fv, fs) rfl
      have DF := Lib.hid hd
      have OF := Lib.hid oz
      have r0 := hd.b0.cell 0; have r1 := hd.b0.cell 1; have r2 := hd.b0.cell 2
      simp at r0 r1 r2
      clear hd ho oz hz HD
      go_wp2
      refine bodyPost_ret (v := .tuple #[.agg #[.int .i64 g, (.slice ra rows.length rc), (.slice ma makes.length mc)], fv]) ?_ rfl ?_
      · simp [results, Tryd.results21, go_sem, r0, r1, r2]
      · exact ⟨g, (.slice ra rows.length rc), (.slice ma makes.length mc), fv, rows, makes, fs, rfl, (DF.out.st _ (Above.refl _ _)).1, Ints.of_own OF.out (by unfold maxLen; omega), CB.out, lz, DF.out.bl⟩
  · have hp0 : (p == 0) = false := by simpa using hp
    have p0 := D3.out.bc.cell 0
    have p1 := D3.out.bc.cell 1
    have p2 := D3.out.bc.cell 2
    have r0 := D3.out.b0.cell 0
    have r1 := D3.out.b0.cell 1
    have r2 := D3.out.b0.cell 2
    have f0 := D3.out.b0.frozen 0
    have f1 := D3.out.b0.frozen 1
    have f2 := D3.out.b0.frozen 2
    simp at p0 p1 p2 r0 r1 r2
    go_wp2
    refine bodyPost_ret (v := .tuple #[.agg #[.int .i64 g, (.slice ra rows.length rc), (.slice ma makes.length mc)], ev]) ?_ rfl ?_
    · simp [results, Tryd.results21, go_sem, r0, r1, r2]
    · have D4 := D3.out.put (x := .int .i64 g) (y := (.slice ra rows.length rc)) (z := (.slice ma makes.length mc))
      exact ⟨g, (.slice ra rows.length rc), (.slice ma makes.length mc), ev, rows, makes, es, rfl, (D4.st _ (Above.refl _ _)).1, (D4.st _ (Above.refl _ _)).2, CB.out, l4, D4.bl⟩

set_option maxHeartbeats 1600000 in
theorem drawWordsOf_any (s : Value) (w : World) (h : CodeIn w s) : Calls Tryd.prog 29 #[s] w (DrawCEFQPost w) := by
  have H := Lib.hid (code_grow h (.cells #[.int .i64 0, .slice none 0 0, .slice none 0 0] 26))
  have X0 := Lib.hid (Box.made w [.int .i64 0, .slice none 0 0, .slice none 0 0] 26)
  have B0 := Lib.hid (below_grow w (.cells #[.int .i64 0, .slice none 0 0, .slice none 0 0] 26))
  clear h
  go_enter Tryd.func29, Tryd.ntmps29
  go_wp2_with fail
  refine (open_any _ _ H.out).mono ?_
  rintro e w1 ⟨rfl, H1, hb1⟩
  rw [World.size_alloc] at H1 hb1 ⊢
  have RD1 := Lib.hid H1
  have X1 := Lib.hid (X0.out.on (by rw [World.size_alloc]; exact hb1))
  have B1 := Lib.hid (B0.out.trans (hb1.mono (by omega)))
  clear H1 hb1 X0 B0
  go_wp2_with fail
  refine (drawclaim_any _ _ _ _ RD1.out (by omega) (by omega) (by omega)).mono ?_
  rintro e w2 ⟨g, rv, mv, ev, rows, makes, es, rfl, hst, l1, l2, l3, l4, h0, h4, hcap, hg, k2, hk2, hr⟩
  obtain ⟨ra, rc, er, _⟩ := (hst _ (Above.refl _ _)).1.rows.opened
  obtain ⟨ma, mc, em, _⟩ := (hst _ (Above.refl _ _)).1.makes.opened
  subst er em
  have hlt := RD1.out.lt
  have CB := Lib.hid (show ClBd g rows makes from ⟨l1, l2, l3, h0, h4⟩)
  have CP := Lib.hid hcap
  have D2 : Hid (Dr w (w.heap.size + 1) w.heap.size w2.heap.size [.int .i64 0, .slice none 0 0, .slice none 0 0] g (.slice ra rows.length rc) (.slice ma makes.length mc) ev rows makes es (w2.alloc (.cells #[.int .i64 g, (.slice ra rows.length rc), (.slice ma makes.length mc)] 26)) k2) := Lib.hid ⟨hr.below (below_grow _ _), (below_of_grown B1.out hg (by omega) (by omega)).trans ((below_grow w2 _).mono (by have := hg.size; omega)), (X1.out.kept (hg.block _ X1.out.lt (fun e => by simp at e))).alloc _, Box.made w2 _ _,
    fun w'' ha => hst w'' ((Above.below (below_grow w2 _)).trans ha), Nat.le_refl _, Nat.lt_succ_self _, Nat.lt_of_lt_of_le hlt hg.size⟩
  have hs2 : w.heap.size + 1 < w2.heap.size := Nat.lt_of_lt_of_le hlt hg.size
  have hk2' : k2 ≤ 60 := by omega
  clear X1 B1 RD1 hst l1 l2 l3 hcap hg hr hlt hk2
  have HD : Hid (Dz w (w.heap.size + 1) w.heap.size w2.heap.size g (.slice ra rows.length rc) (.slice ma makes.length mc) ev rows makes es (0, false, none) (w2.alloc (.cells #[.int .i64 g, (.slice ra rows.length rc), (.slice ma makes.length mc)] 26)).drew) := Lib.hid ⟨⟨_, by show _ ≤ 100 + 10 * 0; omega, D2.out.on ((Below.refl _ _).drew)⟩, fun r hr => by cases hr⟩
  have hRc : w.heap.size + 1 < w2.heap.size := hs2
  clear D2
  go_wp2_with fail
  apply wp_region_H (Z := Nat × Bool × Option (Value × List Int)) (S := fun k => k == 4 || k == 8 || k == 9) (C := fun z w' => Hid (Dz w (w.heap.size + 1) w.heap.size w2.heap.size g (.slice ra rows.length rc) (.slice ma makes.length mc) ev rows makes es z w')) [0, 1, 2, 3, 5, 6, 7] (0, false, none)
  · kernel_rfl
  · kernel_rfl
  · kernel_rfl
  · exact ⟨rfl, rfl, rfl, rfl, rfl, rfl, rfl, trivial⟩
  · rfl
  · decide
  · exact HD
  · intro z
    dsimp only [pickL, nthO]
    repeat (first | go_big_quiet_skip | (go_big_quiet_want; go_big_quiet_op; first | go_big_quiet_on | (refine ⟨_, fun _ _ => rfl, ?_⟩; go_big_quiet_on)))
    go_big_quiet_want
    go_big_quiet_op
    refine ⟨.agg #[.int .i64 g, (.slice ra rows.length rc), (.slice ma makes.length mc)], fun w' hw' => ?_, ?_⟩
    · have q0 := (Dz.box hw'.out).cell 0; have q1 := (Dz.box hw'.out).cell 1; have q2 := (Dz.box hw'.out).cell 2
      simp at q0 q1 q2
      simp [go_sem, q0, q1, q2]
    go_big_quiet_on
    repeat (first | go_big_quiet_skip | (go_big_quiet_want; go_big_quiet_op; first | go_big_quiet_on | (refine ⟨_, fun _ _ => rfl, ?_⟩; go_big_quiet_on)))
    repeat (first | go_big_quiet_skip | (go_big_quiet_want; go_big_quiet_op; first | go_big_quiet_on | (refine ⟨_, fun _ _ => rfl, ?_⟩; go_big_quiet_on)))
    repeat (first | go_big_quiet_skip | (go_big_quiet_want; go_big_quiet_op; first | go_big_quiet_on | (refine ⟨_, fun _ _ => rfl, ?_⟩; go_big_quiet_on)))
    go_big_quiet_want
    go_big_quiet_op
    refine ⟨.agg #[.int .i64 g, (.slice ra rows.length rc), (.slice ma makes.length mc)], fun w' hw' => ?_, ?_⟩
    · have q0 := (Dz.box hw'.out).cell 0; have q1 := (Dz.box hw'.out).cell 1; have q2 := (Dz.box hw'.out).cell 2
      simp at q0 q1 q2
      simp [go_sem, q0, q1, q2]
    go_big_quiet_on
    repeat (first | go_big_quiet_skip | (go_big_quiet_want; go_big_quiet_op; first | go_big_quiet_on | (refine ⟨_, fun _ _ => rfl, ?_⟩; go_big_quiet_on)))
    repeat (first | go_big_quiet_skip | (go_big_quiet_want; go_big_quiet_op; first | go_big_quiet_on | (refine ⟨_, fun _ _ => rfl, ?_⟩; go_big_quiet_on)))
    repeat (first | go_big_quiet_skip | (go_big_quiet_want; go_big_quiet_op; first | go_big_quiet_on | (refine ⟨_, fun _ _ => rfl, ?_⟩; go_big_quiet_on)))
    go_big_quiet_want
    go_big_quiet_op
    refine ⟨.int .i64 g, fun w' hw' => ?_, ?_⟩
    · have q0 := (Dz.box hw'.out).cell 0
      simp at q0
      simp [go_sem, q0]
    go_big_quiet_on
    repeat (first | go_big_quiet_skip | (go_big_quiet_want; go_big_quiet_op; first | go_big_quiet_on | (refine ⟨_, fun _ _ => rfl, ?_⟩; go_big_quiet_on)))
    exact wpQuiet_nil rfl
  · skip
    refine wpAnyH_call (i := 4) (d := some 20) 49 #[.pointer (some ⟨w.heap.size + 1, 0, none⟩), .agg #[.int .i64 g, (.slice ra rows.length rc), (.slice ma makes.length mc)]] rfl (by kernel_rfl) rfl rfl (by kernel_rfl) (fun _ => by kernel_rfl) fun wa hc => ?_
    obtain ⟨ka, hka, hd⟩ := hc.out.1
    refine (drawexps_any _ ka g (.slice ra rows.length rc) (.slice ma makes.length mc) rows makes _ hd.rd (by simp at hka; omega) (fun w' ha => (hd.st w' ha).1)).mono ?_
    rintro e wb ⟨fv, fs, rfl, o4, hfl, _, g4, k4, hk4, r4⟩
    refine ⟨_, rfl, (1, false, some (fv, fs)), Lib.hid ⟨(hc.out.num hRc hd hka g4 r4 (by omega)).1, fun r hr => by cases hr; exact ⟨own_mono o4 (by have := hd.bc.lt; omega), hfl⟩⟩, ?_⟩
    clear o4 hk4 r4 g4 hd hka hc
    refine wpAnyH_call (i := 8) (d := some 24) 60 #[.pointer (some ⟨w.heap.size + 1, 0, none⟩), .int .i64 g, .int .i64 20] rfl (by kernel_rfl) rfl rfl (by kernel_rfl) (fun _ => by kernel_rfl) fun wa hc => ?_
    obtain ⟨ka, hka, hd⟩ := hc.out.1
    refine (drawexp_any _ ka g 20 _ hd.rd (by simp at hka; omega) (by omega) (by omega)).mono ?_
    rintro e wb ⟨q, rfl, lq, uq, g4, k4, hk4, r4⟩
    refine ⟨_, rfl, (2, false, some (fv, fs)), Lib.hid (hc.out.num hRc hd hka g4 r4 (by omega)), ?_⟩
    clear hk4 r4 g4 hd hka hc
    refine wpAnyH_special (i := 9) (d := none) rfl (by kernel_rfl) rfl rfl (by kernel_rfl) fun we he => ?_
    obtain ⟨⟨ke, hke, hd⟩, ho⟩ := he.out
    have r0 := hd.b0.cell 0; have r1 := hd.b0.cell 1; have r2 := hd.b0.cell 2
    have f0 := hd.b0.frozen 0; have f1 := hd.b0.frozen 1; have f2 := hd.b0.frozen 2
    simp at r0 r1 r2
    refine ⟨undef, ((we.setCell ⟨w.heap.size, 0, none⟩ (.int .i64 g)).setCell ⟨w.heap.size, 1, none⟩ (.slice ra rows.length rc)).setCell ⟨w.heap.size, 2, none⟩ (.slice ma makes.length mc), (2, true, some (fv, fs)), .inr ⟨by simp [go_sem, Act.put, r0, r1, r2, f0, f1, f2], rfl⟩, Lib.hid ⟨⟨ke, hke, hd.put⟩, fun r hr => ?_⟩, ?_⟩
    · obtain ⟨o, l⟩ := ho r hr
      refine ⟨own_heap o fun b hb => ?_, l⟩
      have := (o.lt b hb).1
      exact (Below.heap_setCell _ _ _ _ (by show b ≠ w.heap.size; omega)).trans ((Below.heap_setCell _ _ _ _ (by show b ≠ w.heap.size; omega)).trans (Below.heap_setCell _ _ _ _ (by show b ≠ w.heap.size; omega)))
    clear hd ho hke he r0 r1 r2 f0 f1 f2
    refine wpAnyH_assign (i := 10) (d := some 3) (.tmp 17) rfl (by kernel_rfl) rfl rfl (by kernel_rfl) rfl ?_
    refine wpAnyH_assign (i := 11) (d := some 4) (.tmp 20) rfl (by kernel_rfl) rfl rfl (by kernel_rfl) rfl ?_
    refine wpAnyH_assign (i := 12) (d := some 5) (.tmp 24) rfl (by kernel_rfl) rfl rfl (by kernel_rfl) rfl ?_
    refine ⟨by kernel_rfl, fun wz hz => ?_⟩
    simp only [Act.put, Act.eval]
    obtain ⟨⟨kz, _, hd⟩, ho⟩ := hz.out
    obtain ⟨oz, lz⟩ := ho (fv, fs) rfl
    have DF := Lib.hid hd
    have OF := Lib.hid oz
    have r0 := hd.b0.cell 0; have r1 := hd.b0.cell 1; have r2 := hd.b0.cell 2
    simp at r0 r1 r2
    clear hd ho oz hz HD
    go_wp2
    refine bodyPost_ret (v := .tuple #[.agg #[.int .i64 g, (.slice ra rows.length rc), (.slice ma makes.length mc)], ev, fv, .int .i64 q]) ?_ rfl ?_
    · simp [results, Tryd.results29, go_sem, r0, r1, r2]
    · exact ⟨g, (.slice ra rows.length rc), (.slice ma makes.length mc), ev, fv, q, rows, makes, es, fs, rfl, (DF.out.st _ (Above.refl _ _)).1, (DF.out.st _ (Above.refl _ _)).2, Ints.of_own OF.out (by unfold maxLen; omega), CB.out, l4, lz, ⟨by omega, by omega⟩, DF.out.bl⟩

set_option maxHeartbeats 1600000 in
theorem drawWordsMade_any (s : Value) (w : World) (h : CodeIn w s) : Calls Tryd.prog 37 #[s] w (DrawCQEPost w) := by
  have H := Lib.hid (code_grow h (.cells #[.int .i64 0, .slice none 0 0, .slice none 0 0] 26))
  have X0 := Lib.hid (Box.made w [.int .i64 0, .slice none 0 0, .slice none 0 0] 26)
  have B0 := Lib.hid (below_grow w (.cells #[.int .i64 0, .slice none 0 0, .slice none 0 0] 26))
  clear h
  go_enter Tryd.func37, Tryd.ntmps37
  go_wp2_with fail
  refine (open_any _ _ H.out).mono ?_
  rintro e w1 ⟨rfl, H1, hb1⟩
  rw [World.size_alloc] at H1 hb1 ⊢
  have RD1 := Lib.hid H1
  have X1 := Lib.hid (X0.out.on (by rw [World.size_alloc]; exact hb1))
  have B1 := Lib.hid (B0.out.trans (hb1.mono (by omega)))
  clear H1 hb1 X0 B0
  go_wp2_with fail
  refine (drawclaim_any _ _ _ _ RD1.out (by omega) (by omega) (by omega)).mono ?_
  rintro e w2 ⟨g, rv, mv, ev, rows, makes, es, rfl, hst, l1, l2, l3, l4, h0, h4, hcap, hg, k2, hk2, hr⟩
  obtain ⟨ra, rc, er, _⟩ := (hst _ (Above.refl _ _)).1.rows.opened
  obtain ⟨ma, mc, em, _⟩ := (hst _ (Above.refl _ _)).1.makes.opened
  subst er em
  have hlt := RD1.out.lt
  have CB := Lib.hid (show ClBd g rows makes from ⟨l1, l2, l3, h0, h4⟩)
  have CP := Lib.hid hcap
  have D2 : Hid (Dr w (w.heap.size + 1) w.heap.size w2.heap.size [.int .i64 0, .slice none 0 0, .slice none 0 0] g (.slice ra rows.length rc) (.slice ma makes.length mc) ev rows makes es (w2.alloc (.cells #[.int .i64 g, (.slice ra rows.length rc), (.slice ma makes.length mc)] 26)) k2) := Lib.hid ⟨hr.below (below_grow _ _), (below_of_grown B1.out hg (by omega) (by omega)).trans ((below_grow w2 _).mono (by have := hg.size; omega)), (X1.out.kept (hg.block _ X1.out.lt (fun e => by simp at e))).alloc _, Box.made w2 _ _,
    fun w'' ha => hst w'' ((Above.below (below_grow w2 _)).trans ha), Nat.le_refl _, Nat.lt_succ_self _, Nat.lt_of_lt_of_le hlt hg.size⟩
  have hs2 : w.heap.size + 1 < w2.heap.size := Nat.lt_of_lt_of_le hlt hg.size
  have hk2' : k2 ≤ 60 := by omega
  clear X1 B1 RD1 hst l1 l2 l3 hcap hg hr hlt hk2
  have HD : Hid (Dz w (w.heap.size + 1) w.heap.size w2.heap.size g (.slice ra rows.length rc) (.slice ma makes.length mc) ev rows makes es (0, false, none) (w2.alloc (.cells #[.int .i64 g, (.slice ra rows.length rc), (.slice ma makes.length mc)] 26)).drew) := Lib.hid ⟨⟨_, by show _ ≤ 100 + 10 * 0; omega, D2.out.on ((Below.refl _ _).drew)⟩, fun r hr => by cases hr⟩
  have hRc : w.heap.size + 1 < w2.heap.size := hs2
  clear D2
  go_wp2_with fail
  apply wp_region_H (Z := Nat × Bool × Option (Value × List Int)) (S := fun k => k == 4 || k == 7 || k == 8) (C := fun z w' => Hid (Dz w (w.heap.size + 1) w.heap.size w2.heap.size g (.slice ra rows.length rc) (.slice ma makes.length mc) ev rows makes es z w')) [0, 1, 2, 3, 5, 6] (0, false, none)
  · kernel_rfl
  · kernel_rfl
  · kernel_rfl
  · exact ⟨rfl, rfl, rfl, rfl, rfl, rfl, trivial⟩
  · rfl
  · decide
  · exact HD
  · intro z
    dsimp only [pickL, nthO]
    repeat (first | go_big_quiet_skip | (go_big_quiet_want; go_big_quiet_op; first | go_big_quiet_on | (refine ⟨_, fun _ _ => rfl, ?_⟩; go_big_quiet_on)))
    go_big_quiet_want
    go_big_quiet_op
    refine ⟨.agg #[.int .i64 g, (.slice ra rows.length rc), (.slice ma makes.length mc)], fun w' hw' => ?_, ?_⟩
    · have q0 := (Dz.box hw'.out).cell 0; have q1 := (Dz.box hw'.out).cell 1; have q2 := (Dz.box hw'.out).cell 2
      simp at q0 q1 q2
      simp [go_sem, q0, q1, q2]
    go_big_quiet_on
    repeat (first | go_big_quiet_skip | (go_big_quiet_want; go_big_quiet_op; first | go_big_quiet_on | (refine ⟨_, fun _ _ => rfl, ?_⟩; go_big_quiet_on)))
    repeat (first | go_big_quiet_skip | (go_big_quiet_want; go_big_quiet_op; first | go_big_quiet_on | (refine ⟨_, fun _ _ => rfl, ?_⟩; go_big_quiet_on)))
    repeat (first | go_big_quiet_skip | (go_big_quiet_want; go_big_quiet_op; first | go_big_quiet_on | (refine ⟨_, fun _ _ => rfl, ?_⟩; go_big_quiet_on)))
    go_big_quiet_want
    go_big_quiet_op
    refine ⟨.int .i64 g, fun w' hw' => ?_, ?_⟩
    · have q0 := (Dz.box hw'.out).cell 0
      simp at q0
      simp [go_sem, q0]
    go_big_quiet_on
    repeat (first | go_big_quiet_skip | (go_big_quiet_want; go_big_quiet_op; first | go_big_quiet_on | (refine ⟨_, fun _ _ => rfl, ?_⟩; go_big_quiet_on)))
    repeat (first | go_big_quiet_skip | (go_big_quiet_want; go_big_quiet_op; first | go_big_quiet_on | (refine ⟨_, fun _ _ => rfl, ?_⟩; go_big_quiet_on)))
    go_big_quiet_want
    go_big_quiet_op
    refine ⟨.agg #[.int .i64 g, (.slice ra rows.length rc), (.slice ma makes.length mc)], fun w' hw' => ?_, ?_⟩
    · have q0 := (Dz.box hw'.out).cell 0; have q1 := (Dz.box hw'.out).cell 1; have q2 := (Dz.box hw'.out).cell 2
      simp at q0 q1 q2
      simp [go_sem, q0, q1, q2]
    go_big_quiet_on
    repeat (first | go_big_quiet_skip | (go_big_quiet_want; go_big_quiet_op; first | go_big_quiet_on | (refine ⟨_, fun _ _ => rfl, ?_⟩; go_big_quiet_on)))
    exact wpQuiet_nil rfl
  · skip
    refine wpAnyH_call (i := 4) (d := some 19) 60 #[.pointer (some ⟨w.heap.size + 1, 0, none⟩), .int .i64 g, .int .i64 20] rfl (by kernel_rfl) rfl rfl (by kernel_rfl) (fun _ => by kernel_rfl) fun wa hc => ?_
    obtain ⟨ka, hka, hd⟩ := hc.out.1
    refine (drawexp_any _ ka g 20 _ hd.rd (by simp at hka; omega) (by omega) (by omega)).mono ?_
    rintro e wb ⟨q, rfl, lq, uq, g4, k4, hk4, r4⟩
    refine ⟨_, rfl, (1, false, none), Lib.hid (hc.out.num hRc hd hka g4 r4 (by omega)), ?_⟩
    clear hk4 r4 g4 hd hka hc
    refine wpAnyH_call (i := 7) (d := some 22) 49 #[.pointer (some ⟨w.heap.size + 1, 0, none⟩), .agg #[.int .i64 g, (.slice ra rows.length rc), (.slice ma makes.length mc)]] rfl (by kernel_rfl) rfl rfl (by kernel_rfl) (fun _ => by kernel_rfl) fun wa hc => ?_
    obtain ⟨ka, hka, hd⟩ := hc.out.1
    refine (drawexps_any _ ka g (.slice ra rows.length rc) (.slice ma makes.length mc) rows makes _ hd.rd (by simp at hka; omega) (fun w' ha => (hd.st w' ha).1)).mono ?_
    rintro e wb ⟨fv, fs, rfl, o4, hfl, _, g4, k4, hk4, r4⟩
    refine ⟨_, rfl, (2, false, some (fv, fs)), Lib.hid ⟨(hc.out.num hRc hd hka g4 r4 (by omega)).1, fun r hr => by cases hr; exact ⟨own_mono o4 (by have := hd.bc.lt; omega), hfl⟩⟩, ?_⟩
    clear o4 hk4 r4 g4 hd hka hc
    refine wpAnyH_special (i := 8) (d := none) rfl (by kernel_rfl) rfl rfl (by kernel_rfl) fun we he => ?_
    obtain ⟨⟨ke, hke, hd⟩, ho⟩ := he.out
    have r0 := hd.b0.cell 0; have r1 := hd.b0.cell 1; have r2 := hd.b0.cell 2
    have f0 := hd.b0.frozen 0; have f1 := hd.b0.frozen 1; have f2 := hd.b0.frozen 2
    simp at r0 r1 r2
    refine ⟨undef, ((we.setCell ⟨w.heap.size, 0, none⟩ (.int .i64 g)).setCell ⟨w.heap.size, 1, none⟩ (.slice ra rows.length rc)).setCell ⟨w.heap.size, 2, none⟩ (.slice ma makes.length mc), (2, true, some (fv, fs)), .inr ⟨by simp [go_sem, Act.put, r0, r1, r2, f0, f1, f2], rfl⟩, Lib.hid ⟨⟨ke, hke, hd.put⟩, fun r hr => ?_⟩, ?_⟩
    · obtain ⟨o, l⟩ := ho r hr
      refine ⟨own_heap o fun b hb => ?_, l⟩
      have := (o.lt b hb).1
      exact (Below.heap_setCell _ _ _ _ (by show b ≠ w.heap.size; omega)).trans ((Below.heap_setCell _ _ _ _ (by show b ≠ w.heap.size; omega)).trans (Below.heap_setCell _ _ _ _ (by show b ≠ w.heap.size; omega)))
    clear hd ho hke he r0 r1 r2 f0 f1 f2
    refine wpAnyH_assign (i := 9) (d := some 3) (.tmp 19) rfl (by kernel_rfl) rfl rfl (by kernel_rfl) rfl ?_
    refine wpAnyH_assign (i := 10) (d := some 4) (.tmp 22) rfl (by kernel_rfl) rfl rfl (by kernel_rfl) rfl ?_
    refine ⟨by kernel_rfl, fun wz hz => ?_⟩
    simp only [Act.put, Act.eval]
    obtain ⟨⟨kz, _, hd⟩, ho⟩ := hz.out
    obtain ⟨oz, lz⟩ := ho (fv, fs) rfl
    have DF := Lib.hid hd
    have OF := Lib.hid oz
    have r0 := hd.b0.cell 0; have r1 := hd.b0.cell 1; have r2 := hd.b0.cell 2
    simp at r0 r1 r2
    clear hd ho oz hz HD
    go_wp2
    refine bodyPost_ret (v := .tuple #[.agg #[.int .i64 g, (.slice ra rows.length rc), (.slice ma makes.length mc)], .int .i64 q, fv]) ?_ rfl ?_
    · simp [results, Tryd.results37, go_sem, r0, r1, r2]
    · exact ⟨g, (.slice ra rows.length rc), (.slice ma makes.length mc), fv, q, rows, makes, fs, rfl, (DF.out.st _ (Above.refl _ _)).1, Ints.of_own OF.out (by unfold maxLen; omega), CB.out, lz, ⟨by omega, by omega⟩, DF.out.bl⟩

end Go.Proofs.YtkcikhjobgackabDoor
