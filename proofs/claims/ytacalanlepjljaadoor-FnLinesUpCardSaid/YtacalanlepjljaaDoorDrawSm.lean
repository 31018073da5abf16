/- l20Some: a talk of some of many, perhaps spoilt; DrawSomeOk, DrawLinesUp. -/
import Derived.Test.YtacalanlepjljaaDoorDrawSo
import Derived.Test.YtacalanlepjljaaDoorSofS
import Derived.Deep.Cut
namespace Go.Proofs.YtacalanlepjljaaDoor
open Go.RowKit

/-- The reader, the result's box, the elements, and a talk in a box of its own. -/
structure Ls (w : World) (R N0 lo N1 : Nat) (kv sv : Value) (q : Int) (xv tv : Value) (keys ss xs ts : List Int) (k : Nat) (wr : World) : Prop where
  rd : Rd wr R k
  gr : w.grownBy wr (some R)
  rl : R < w.heap.size
  n0 : w.heap.size ≤ N0
  b0 : Box wr N0 [.slice none 0 0, .int .i64 0, .slice none 0 0, .slice none 0 0]
  n1 : N0 < lo
  n2 : lo ≤ N1
  b1 : Box wr N1 [sv, .int .i64 q, xv, tv]
  ok : Own wr (N0 + 1) kv keys
  hk : ∀ b, kv.ownBlock = some b → b < lo
  o : OwnS wr lo N1 sv xv tv ss xs ts
theorem box_draw {w w' : World} {R N : Nat} {P : List Value} (h : Box w N P) (hg : w.grownBy w' (some R)) (hN : N ≠ R) : Box w' N P := box_same h (hg.block N h.lt fun e => hN (by cases e; rfl))
theorem grown_set {w w' : World} {R N j : Nat} {v : Value} (h : w.grownBy w' (some R)) (hN : w.heap.size ≤ N) : w.grownBy (w'.setCell ⟨N, j, none⟩ v) (some R) :=
  ⟨h.os, h.tape, h.output, by have := h.size; simpa [World.setCell] using this, fun i hi hr => (Below.heap_setCell _ _ _ _ (by show i ≠ N; omega)).trans (h.block i hi hr)⟩
section
variable {w : World} {R N0 lo N1 : Nat} {kv sv : Value} {q : Int} {xv tv : Value} {keys ss xs ts : List Int} {k : Nat} {wr : World}
theorem Ls.draw {w' : World} {k' : Nat} (h : Ls w R N0 lo N1 kv sv q xv tv keys ss xs ts k wr) (hg : wr.grownBy w' (some R)) (hr : Rd w' R k') : Ls w R N0 lo N1 kv sv q xv tv keys ss xs ts k' w' := by
  have rl := h.rl; have n0 := h.n0; have n1 := h.n1; have n2 := h.n2
  exact ⟨hr, grown_trans h.gr hg, h.rl, h.n0, box_draw h.b0 hg (by omega), h.n1, h.n2, box_draw h.b1 hg (by omega), own_draw h.ok (by omega) hg, h.hk,
    own_draw h.o.s (by omega) hg, own_draw h.o.x (by omega) hg, own_draw h.o.t (by omega) hg, h.o.ap1, h.o.ap2, h.o.ap3, h.o.his, h.o.hix, h.o.hit⟩
theorem Ls.on {w' : World} (h : Ls w R N0 lo N1 kv sv q xv tv keys ss xs ts k wr) (hb : Below wr.heap.size wr w') : Ls w R N0 lo N1 kv sv q xv tv keys ss xs ts k w' := h.draw (grown_below R hb) (h.rd.below hb)
theorem Ls.sz (h : Ls w R N0 lo N1 kv sv q xv tv keys ss xs ts k wr) : N1 < wr.heap.size := h.b1.lt
/-- What is left of it where only one of its lists was written to. -/
structure Lf (w : World) (R N0 : Nat) (P0 : List Value) (kv sv : Value) (q : Int) (xv tv : Value) (keys ss xs ts : List Int) (k N1 : Nat) (wr : World) : Prop where
  nn : N0 < N1
  rd : Rd wr R k
  gr : w.grownBy wr (some R)
  rl : R < w.heap.size
  n0 : w.heap.size ≤ N0
  b0 : Box wr N0 P0
  b1 : Box wr N1 [sv, .int .i64 q, xv, tv]
  ok : Own wr (N0 + 1) kv keys
  s : Own wr (N0 + 1) sv ss
  x : Own wr (N0 + 1) xv xs
  t : Own wr (N0 + 1) tv ts
theorem Ls.lf (h : Ls w R N0 lo N1 kv sv q xv tv keys ss xs ts k wr) : Lf w R N0 [.slice none 0 0, .int .i64 0, .slice none 0 0, .slice none 0 0] kv sv q xv tv keys ss xs ts k N1 wr := by
  have n1 := h.n1; have n2 := h.n2
  exact ⟨by omega, h.rd, h.gr, h.rl, h.n0, h.b0, h.b1, h.ok, own_mono h.o.s (by omega), own_mono h.o.x (by omega), own_mono h.o.t (by omega)⟩
theorem keep {w w' : World} {B : Nat} {v u : Value} {xs : List Int} (h : Own w B v xs) (hg : w.grownBy w' u.ownBlock) (ha : ∀ k, v.ownBlock = some k → u.ownBlock = some k → False) : Own w' B v xs := own_stay h hg ha
theorem Ls.putx {w' : World} {ys : List Int} (h : Ls w R N0 lo N1 kv sv q xv tv keys ss xs ts k wr) (ho : Own w' lo xv ys) (hg : wr.grownBy w' xv.ownBlock) : Ls w R N0 lo N1 kv sv q xv tv keys ss ys ts k w' := by
  have rl := h.rl; have n0 := h.n0; have n1 := h.n1; have n2 := h.n2
  have hlo : ∀ b, xv.ownBlock = some b → lo ≤ b ∧ b < N1 := fun b hb => ⟨(h.o.x.lt b hb).1, h.o.hix b hb⟩
  exact ⟨rd_own h.rd hg (fun b hb => (hlo b hb).1) (by omega) (by have := h.sz; omega), grown_own h.gr hg (fun b hb => by have := (hlo b hb).1; omega), h.rl, h.n0, box_same h.b0 (hg.block _ h.b0.lt fun e => by have := hlo _ e.symm; omega), h.n1, h.n2, box_same h.b1 (hg.block _ h.b1.lt fun e => by have := hlo _ e.symm; omega),
    own_stay h.ok hg (fun b a c => by have := h.hk b a; have := (hlo b c).1; omega), h.hk, own_stay h.o.s hg h.o.ap1, ho, own_stay h.o.t hg (fun b a c => h.o.ap3 b c a), h.o.ap1, h.o.ap2, h.o.ap3, h.o.his, h.o.hix, h.o.hit⟩
theorem Ls.putt {w' : World} {ys : List Int} (h : Ls w R N0 lo N1 kv sv q xv tv keys ss xs ts k wr) (ho : Own w' lo tv ys) (hg : wr.grownBy w' tv.ownBlock) : Ls w R N0 lo N1 kv sv q xv tv keys ss xs ys k w' := by
  have rl := h.rl; have n0 := h.n0; have n1 := h.n1; have n2 := h.n2
  have hlo : ∀ b, tv.ownBlock = some b → lo ≤ b ∧ b < N1 := fun b hb => ⟨(h.o.t.lt b hb).1, h.o.hit b hb⟩
  exact ⟨rd_own h.rd hg (fun b hb => (hlo b hb).1) (by omega) (by have := h.sz; omega), grown_own h.gr hg (fun b hb => by have := (hlo b hb).1; omega), h.rl, h.n0, box_same h.b0 (hg.block _ h.b0.lt fun e => by have := hlo _ e.symm; omega), h.n1, h.n2, box_same h.b1 (hg.block _ h.b1.lt fun e => by have := hlo _ e.symm; omega),
    own_stay h.ok hg (fun b a c => by have := h.hk b a; have := (hlo b c).1; omega), h.hk, own_stay h.o.s hg h.o.ap2, own_stay h.o.x hg h.o.ap3, ho, h.o.ap1, h.o.ap2, h.o.ap3, h.o.his, h.o.hix, h.o.hit⟩
/-- Something more is said. -/
theorem Ls.more {w' : World} {sv' : Value} {ys : List Int} (h : Ls w R N0 lo N1 kv sv q xv tv keys ss xs ts k wr) (ho : Own w' lo sv' ys) (hg : wr.grownBy w' sv.ownBlock) (hk : sv'.ownBlock = sv.ownBlock ∨ ∃ b, sv'.ownBlock = some b ∧ wr.heap.size ≤ b) : Lf w R N0 [.slice none 0 0, .int .i64 0, .slice none 0 0, .slice none 0 0] kv sv' q xv tv keys ys xs ts k N1 (w'.setCell ⟨N1, 0, none⟩ sv') := by
  have rl := h.rl; have n0 := h.n0; have n1 := h.n1; have n2 := h.n2; have sz := h.sz
  have hlo : ∀ b, sv.ownBlock = some b → lo ≤ b ∧ b < N1 := fun b hb => ⟨(h.o.s.lt b hb).1, h.o.his b hb⟩
  have hne : ∀ b, sv'.ownBlock = some b → b ≠ N1 := fun b hb => by
    rcases hk with e | ⟨c, e, hc⟩
    · rw [e] at hb; have := (hlo b hb).2; omega
    · rw [e] at hb; cases hb; omega
  have off : ∀ {B : Nat} {v : Value} {zs : List Int}, Own w' B v zs → (∀ b, v.ownBlock = some b → b ≠ N1) → Own (w'.setCell ⟨N1, 0, none⟩ sv') B v zs := fun ho hb => own_heap ho fun b e => Below.heap_setCell _ _ _ _ (hb b e)
  have hB : Below N1 w' (w'.setCell ⟨N1, 0, none⟩ sv') := (Below.refl N1 w').setCell (Nat.le_refl _) _
  refine ⟨by omega, ?_, ?_, h.rl, h.n0, box_same (box_same h.b0 (hg.block _ h.b0.lt fun e => by have := hlo _ e.symm; omega)) (Below.heap_setCell _ _ _ _ (by show N0 ≠ N1; omega)), (box_same h.b1 (hg.block _ h.b1.lt fun e => by have := hlo _ e.symm; omega)).set 0 sv',
    off (own_stay h.ok hg fun b a c => by have := h.hk b a; have := (hlo b c).1; omega) (fun b e => by have := h.hk b e; omega), off (own_mono ho (by omega)) hne, off (own_mono (own_stay h.o.x hg fun b a c => h.o.ap1 b c a) (by omega)) (fun b e => by have := h.o.hix b e; omega), off (own_mono (own_stay h.o.t hg fun b a c => h.o.ap2 b c a) (by omega)) (fun b e => by have := h.o.hit b e; omega)⟩
  · exact (rd_own h.rd hg (fun b hb => (hlo b hb).1) (by omega) (by omega)).upto (B := N1) hB (by omega)
  · exact grown_set (grown_own h.gr hg (fun b hb => by have := (hlo b hb).1; omega)) (by omega)
theorem Lf.on {P0 : List Value} {N1 : Nat} {w' : World} (h : Lf w R N0 P0 kv sv q xv tv keys ss xs ts k N1 wr) (hb : Below wr.heap.size wr w') : Lf w R N0 P0 kv sv q xv tv keys ss xs ts k N1 w' :=
  ⟨h.nn, h.rd.below hb, grown_trans h.gr (grown_below R hb), h.rl, h.n0, h.b0.on hb, h.b1.on hb, own_below h.ok hb, own_below h.s hb, own_below h.x hb, own_below h.t hb⟩
theorem Lf.put {N1 : Nat} (h : Lf w R N0 [.slice none 0 0, .int .i64 0, .slice none 0 0, .slice none 0 0] kv sv q xv tv keys ss xs ts k N1 wr) (a b c d : Value) : Lf w R N0 [a, b, c, d] kv sv q xv tv keys ss xs ts k N1 ((((wr.setCell ⟨N0, 0, none⟩ a).setCell ⟨N0, 1, none⟩ b).setCell ⟨N0, 2, none⟩ c).setCell ⟨N0, 3, none⟩ d) := by
  have rl := h.rl; have n0 := h.n0; have nn := h.nn
  have off : ∀ {v : Value} {zs : List Int}, Own wr (N0 + 1) v zs → Own ((((wr.setCell ⟨N0, 0, none⟩ a).setCell ⟨N0, 1, none⟩ b).setCell ⟨N0, 2, none⟩ c).setCell ⟨N0, 3, none⟩ d) (N0 + 1) v zs := fun ho => own_off (own_off (own_off (own_off ho (by omega)) (by omega)) (by omega)) (by omega)
  have hB : Below N0 wr ((((wr.setCell ⟨N0, 0, none⟩ a).setCell ⟨N0, 1, none⟩ b).setCell ⟨N0, 2, none⟩ c).setCell ⟨N0, 3, none⟩ d) := ((((Below.refl N0 wr).setCell (Nat.le_refl _) _).setCell (Nat.le_refl _) _).setCell (Nat.le_refl _) _).setCell (Nat.le_refl _) _
  have hh : ((((wr.setCell ⟨N0, 0, none⟩ a).setCell ⟨N0, 1, none⟩ b).setCell ⟨N0, 2, none⟩ c).setCell ⟨N0, 3, none⟩ d).heap[N1]? = wr.heap[N1]? := (Below.heap_setCell _ _ _ _ (by show N1 ≠ N0; omega)).trans ((Below.heap_setCell _ _ _ _ (by show N1 ≠ N0; omega)).trans ((Below.heap_setCell _ _ _ _ (by show N1 ≠ N0; omega)).trans (Below.heap_setCell _ _ _ _ (by show N1 ≠ N0; omega))))
  exact ⟨h.nn, h.rd.upto (B := N0) hB (by omega), grown_set (grown_set (grown_set (grown_set h.gr h.n0) h.n0) h.n0) h.n0, h.rl, h.n0, (((h.b0.set 0 a).set 1 b).set 2 c).set 3 d, box_same h.b1 hh, off h.ok, off h.s, off h.x, off h.t⟩
theorem Lf.res {P0 : List Value} {N1 : Nat} (h : Lf w R N0 P0 kv sv q xv tv keys ss xs ts k N1 wr) : Rd wr R k ∧ w.grownBy wr (some R) ∧ Own wr w.heap.size kv keys ∧ Own wr w.heap.size sv ss ∧ Own wr w.heap.size xv xs ∧ Own wr w.heap.size tv ts := by
  have n0 := h.n0
  exact ⟨h.rd, h.gr, own_mono h.ok (by omega), own_mono h.s (by omega), own_mono h.x (by omega), own_mono h.t (by omega)⟩
end
def lsx (xs : List Int) (a : Nat) (z : Option (Int × Bool)) : List Int := match z with
  | some (v, true) => xs.set a v
  | _ => xs
theorem lsx_len (xs : List Int) (a : Nat) (z : Option (Int × Bool)) : (lsx xs a z).length = xs.length := by
  rcases z with _ | ⟨v, _ | _⟩
  · rfl
  · rfl
  · exact List.length_set
theorem sL_len (b : Bool) (f : Nat → Int) (n : Nat) : (sL b (mapTo f n)).length = if b then n else 0 := by
  cases b
  · rfl
  · exact mapTo_len f n
def SomePost (R k : Nat) (w : World) (e : Ending) (w' : World) : Prop :=
  ∃ (g : Int) (kv : Value) (keys : List Int) (need : Int) (sv : Value) (q : Int) (xv tv : Value) (ss xs ts : List Int) (k' : Nat), e = .returned (.tuple #[.int .i64 g, kv, .int .i64 need, .agg #[sv, .int .i64 q, xv, tv]]) ∧ (-1 ≤ g ∧ g ≤ 4) ∧ (1 ≤ need ∧ need ≤ 5) ∧ (1 ≤ keys.length ∧ keys.length ≤ 5) ∧ ss.length ≤ 6 ∧ xs.length ≤ 5 ∧ ts.length ≤ 5 ∧ k' ≤ k + 100
    ∧ Rd w' R k' ∧ w.grownBy w' (some R) ∧ Own w' w.heap.size kv keys ∧ Own w' w.heap.size sv ss ∧ Own w' w.heap.size xv xs ∧ Own w' w.heap.size tv ts

set_option maxRecDepth 20000 in
set_option maxHeartbeats 6400000 in
theorem drawsome_any (R k : Nat) (w : World) (h : Rd w R k) (hk : k ≤ 1000) : Calls Tryd.prog 61 #[.pointer (some ⟨R, 0, none⟩)] w (SomePost R k w) := by
  have HRL := Lib.hid h.lt
  have H := Lib.hid h
  clear h
  obtain ⟨W0, hW0⟩ : ∃ W, W = w.alloc (.cells #[.slice none 0 0, .int .i64 0, .slice none 0 0, .slice none 0 0] 24) := ⟨_, rfl⟩
  have H0 := Lib.hid (show Rd W0 R k by rw [hW0]; exact H.out.below (below_grow _ _))
  have G0 := Lib.hid (show w.grownBy W0 (some R) by rw [hW0]; exact grown_below R (below_grow _ _))
  have B0 := Lib.hid (show Box W0 w.heap.size [.slice none 0 0, .int .i64 0, .slice none 0 0, .slice none 0 0] by rw [hW0]; exact Box.made w _ _)
  have HZ0 := Lib.hid (show W0.heap.size = w.heap.size + 1 by rw [hW0]; simp)
  clear H
  go_enter Tryd.func61, Tryd.ntmps61
  go_wp2_with fail
  rw [← hW0]
  clear hW0
  refine (drawkeys_any R k 20 _ H0.out (by omega) (by omega) (by omega)).mono ?_
  rintro e w2 ⟨g, kv, keys, need, sv0, secrets, k2, rfl, hg, hd, hl, hs, hk2, _, hK⟩
  have K2 := Lib.hid hK
  clear hK H0
  go_wp2_with fail
  refine (drawparts_any R k2 g sv0 secrets W0.heap.size _ K2.out.rd (by omega) K2.out.os K2.out.rl (by omega) (by omega)).mono ?_
  rintro e w3 ⟨fv, first, gv, second, k3, rfl, hf1, hf2, hk3, hP⟩
  have K3 := Lib.hid (K2.out.draw hP.gr hP.rd)
  have P3 := Lib.hid hP
  clear hP K2
  go_wp2_with fail
  refine (drawexg_any R k3 g _ K3.out.rd (by omega)).mono ?_
  rintro e w4 ⟨s4, rfl, ⟨s0, s9⟩, g4, k4, hk4, r4⟩
  have K4 := Lib.hid (K3.out.draw g4 r4)
  have P4 := Lib.hid (P3.out.draw g4 r4)
  clear g4 r4 K3 P3
  go_wp2_with fail
  refine (ssof_any g need s4 _ _ _ _ keys secrets first second _ (Ints.of_own K4.out.ok (by unfold maxLen; omega)) (Ints.of_own K4.out.os (by unfold maxLen; omega)) (Ints.of_own P4.out.ok (by unfold maxLen; omega)) (Ints.of_own P4.out.os (by unfold maxLen; omega))).mono ?_
  rintro e w5 ⟨sv, xv, tv, rfl, ho, hb⟩
  obtain ⟨bb, hbb⟩ : ∃ b, sofB g keys need secrets first second s4 = b := ⟨_, rfl⟩
  rw [hbb] at ho ⊢
  obtain ⟨ss, hss⟩ : ∃ l, sL bb (mapTo (sofS g keys secrets first second) keys.length) = l := ⟨_, rfl⟩
  obtain ⟨xs, hxs⟩ : ∃ l, sL bb (mapTo (sofX g secrets first s4 keys.length) keys.length) = l := ⟨_, rfl⟩
  obtain ⟨ts, hts⟩ : ∃ l, sL bb (mapTo (sofT g secrets first second s4 keys.length) keys.length) = l := ⟨_, rfl⟩
  obtain ⟨m, hm⟩ : ∃ m, m = if bb = true then keys.length else 0 := ⟨_, rfl⟩
  have m5 : m ≤ 5 := by rw [hm]; split <;> omega
  have HL1 := Lib.hid (show ss.length = m by rw [← hss, sL_len, hm])
  have HL2 := Lib.hid (show xs.length = m by rw [← hxs, sL_len, hm])
  have HL3 := Lib.hid (show ts.length = m by rw [← hts, sL_len, hm])
  rw [hss, hxs, hts] at ho
  obtain ⟨q, hq⟩ : ∃ q, sQ bb s4 = q := ⟨_, rfl⟩
  rw [hq]
  clear hss hxs hts hm hbb hq
  obtain ⟨SA, SC, e1⟩ := Own.form ho.s
  obtain ⟨XA, XC, e2⟩ := Own.form ho.x
  obtain ⟨TA, TC, e3⟩ := Own.form ho.t
  rw [HL1.out] at e1; rw [HL2.out] at e2; rw [HL3.out] at e3
  subst e1 e2 e3
  have L6 := Lib.hid (show Ls w R w.heap.size w4.heap.size w5.heap.size kv (.slice SA m SC) q (.slice XA m XC) (.slice TA m TC) keys ss xs ts k4 (w5.alloc (.cells #[.slice SA m SC, .int .i64 q, .slice XA m XC, .slice TA m TC] 24)) from
    ⟨(K4.out.rd.below hb).below (below_grow _ _), grown_trans (grown_trans G0.out K4.out.gr) (grown_below R (Below.on hb (below_grow _ _))), HRL.out, Nat.le_refl _, (box_draw B0.out K4.out.gr (by have := HRL.out; omega)).on (Below.on hb (below_grow _ _)), by have := K4.out.gr.size; have := HZ0.out; omega, hb.size, Box.made w5 _ _, by have := own_below K4.out.ok (Below.on hb (below_grow w5 (.cells #[.slice SA m SC, .int .i64 q, .slice XA m XC, .slice TA m TC] 24))); rw [HZ0.out] at this; exact this, fun b hb' => (K4.out.ok.lt b hb').2, ho.on (below_grow _ _)⟩)
  clear ho hb K4 P4 B0 G0 HZ0
  obtain ⟨N1, hN1⟩ : ∃ N, N = w5.heap.size := ⟨_, rfl⟩
  obtain ⟨lo, hlo⟩ : ∃ N, N = w4.heap.size := ⟨_, rfl⟩
  obtain ⟨w6, hw6⟩ : ∃ z, z = w5.alloc (.cells #[.slice SA m SC, .int .i64 q, .slice XA m XC, .slice TA m TC] 24) := ⟨_, rfl⟩
  rw [← hN1, ← hlo, ← hw6] at L6
  clear hlo
  go_wp2_with fail
  rw [← hw6]
  refine (odd_any R k4 5 _ L6.out.rd (by omega) (by omega) (by omega)).mono ?_
  rintro e w7 ⟨b, rfl, mm, hw7⟩
  have hgp := grown_pick w6 R k4 mm
  have hrn := L6.out.rd.next mm
  rw [← hw7] at hgp hrn
  have L7 := Lib.hid (L6.out.draw hgp hrn)
  rw [← hN1]
  clear hw7 hgp hrn L6 hw6 hN1
  obtain ⟨k7, hk7⟩ : ∃ k7, k7 = k4 + 1 := ⟨_, rfl⟩
  rw [← hk7] at L7
  cases b
  · have L8 := Lib.hid L7.out.lf
    clear L7
    go_wp2_with fail
    apply wp_region_H (Z := Bool) (S := fun k => k == 7) (C := fun z w' => Hid (Lf w R w.heap.size (if z then [(.slice SA m SC), .int .i64 q, .slice XA m XC, .slice TA m TC] else [.slice none 0 0, .int .i64 0, .slice none 0 0, .slice none 0 0]) kv (.slice SA m SC) q (.slice XA m XC) (.slice TA m TC) keys ss xs ts k7 N1 w')) [0, 1, 2, 3] false
    · kernel_rfl
    · kernel_rfl
    · kernel_rfl
    · exact ⟨rfl, rfl, rfl, rfl, trivial⟩
    · rfl
    · decide
    · exact Lib.hid (L8.out.on (Below.refl _ _).drew)
    · intro z
      dsimp only [pickL, nthO]
      repeat (first | go_big_quiet_skip | (go_big_quiet_want; go_big_quiet_op; first | go_big_quiet_on | (refine ⟨_, fun _ _ => rfl, ?_⟩; go_big_quiet_on)))
      go_big_quiet_want
      go_big_quiet_op
      refine ⟨.agg #[(.slice SA m SC), .int .i64 q, .slice XA m XC, .slice TA m TC], fun w' hw' => ?_, ?_⟩
      · have q0 := hw'.out.b1.cell 0; have q1 := hw'.out.b1.cell 1; have q2 := hw'.out.b1.cell 2; have q3 := hw'.out.b1.cell 3
        simp at q0 q1 q2 q3
        simp [go_sem, q0, q1, q2, q3]
      go_big_quiet_on
      repeat (first | go_big_quiet_skip | (go_big_quiet_want; go_big_quiet_op; first | go_big_quiet_on | (refine ⟨_, fun _ _ => rfl, ?_⟩; go_big_quiet_on)))
      exact wpQuiet_nil rfl
    · skip
      refine wpAnyH_take (i := 4) (d := some 2) (.int .i64 g) rfl (by kernel_rfl) rfl rfl (by kernel_rfl) (by kernel_rfl) (by kernel_rfl) (fun _ => by kernel_rfl) ?_
      refine wpAnyH_take (i := 5) (d := some 3) (kv) rfl (by kernel_rfl) rfl rfl (by kernel_rfl) (by kernel_rfl) (by kernel_rfl) (fun _ => by kernel_rfl) ?_
      refine wpAnyH_take (i := 6) (d := some 4) (.int .i64 need) rfl (by kernel_rfl) rfl rfl (by kernel_rfl) (by kernel_rfl) (by kernel_rfl) (fun _ => by kernel_rfl) ?_
      refine wpAnyH_special (i := 7) (d := none) rfl (by kernel_rfl) rfl rfl (by kernel_rfl) fun we he => ?_
      have z0 := he.out.b0.cell 0; have z1 := he.out.b0.cell 1; have z2 := he.out.b0.cell 2; have z3 := he.out.b0.cell 3; have f0 := he.out.b0.frozen 0; have f1 := he.out.b0.frozen 1; have f2 := he.out.b0.frozen 2; have f3 := he.out.b0.frozen 3
      simp at z0 z1 z2 z3
      refine ⟨undef, (((we.setCell ⟨w.heap.size, 0, none⟩ (.slice SA m SC)).setCell ⟨w.heap.size, 1, none⟩ (.int .i64 q)).setCell ⟨w.heap.size, 2, none⟩ (.slice XA m XC)).setCell ⟨w.heap.size, 3, none⟩ (.slice TA m TC), true, .inr ⟨by simp [go_sem, Act.put, z0, z1, z2, z3, f0, f1, f2, f3], rfl⟩, Lib.hid (he.out.put _ _ _ _), ?_⟩
      clear he z0 z1 z2 z3 f0 f1 f2 f3
      refine ⟨by kernel_rfl, fun wy hz => ?_⟩
      have FN := Lib.hid hz.out.res
      have z0 := hz.out.b0.cell 0; have z1 := hz.out.b0.cell 1; have z2 := hz.out.b0.cell 2; have z3 := hz.out.b0.cell 3
      simp at z0 z1 z2 z3
      simp only [Act.put, List.setIfInBounds_toArray, List.set_cons_zero, List.set_cons_succ]
      go_wp2
      refine bodyPost_ret (v := .tuple #[.int .i64 g, kv, .int .i64 need, .agg #[(.slice SA m SC), .int .i64 q, .slice XA m XC, .slice TA m TC]]) ?_ rfl ?_
      · simp [results, Tryd.results61, go_sem, z0, z1, z2, z3]
      · exact ⟨g, kv, keys, need, _, q, _, _, ss, xs, ts, k7, rfl, hg, hd, hl, by rw [HL1.out]; omega, by rw [HL2.out]; omega, by rw [HL3.out]; omega, by omega, FN.out.1, FN.out.2.1, FN.out.2.2.1, FN.out.2.2.2.1, FN.out.2.2.2.2.1, FN.out.2.2.2.2.2⟩
  · by_cases hm0 : 0 < m
    · have hm1 : (m : Int) > 0 := by omega
      have hmd : decide ((m : Int) > 0) = true := by simp; omega
      have q2 := L7.out.b1.cell 2
      simp at q2
      go_wp2_with fail
      refine (pick_any R k7 _ _ L7.out.rd (by omega)).mono ?_
      rintro e w8 ⟨av, rfl, a0, a1, ma, hw8⟩
      have a2 := a1 (by omega)
      have hgp := grown_pick w7 R k7 ma
      have hrn := L7.out.rd.next ma
      rw [← hw8] at hgp hrn
      have L8 := Lib.hid (L7.out.draw hgp hrn)
      clear hw8 hgp hrn a1 L7 q2
      obtain ⟨a, ha9⟩ : ∃ a : Nat, (a : Int) = av := ⟨av.toNat, by omega⟩
      subst ha9
      have ha : a < m := by omega
      go_wp2_with fail
      refine (pick_any R (k7 + 1) _ _ L8.out.rd (by omega)).mono ?_
      rintro e w9 ⟨pv, rfl, p0, p1, mp, hw9⟩
      have p2 := p1 (by omega)
      have hgp := grown_pick w8 R (k7 + 1) mp
      have hrn := L8.out.rd.next mp
      rw [← hw9] at hgp hrn
      have L9 := Lib.hid (L8.out.draw hgp hrn)
      clear hw9 hgp hrn L8 p1
      obtain ⟨k9, hk9⟩ : ∃ k9, k9 = k7 + 1 + 1 := ⟨_, rfl⟩
      rw [← hk9] at L9
      obtain rfl | rfl | rfl : pv = 0 ∨ pv = 1 ∨ pv = 2 := by omega
      · clear p0 p2
        obtain ⟨B9, hB9⟩ : ∃ B, XA = some ⟨B, 0, none⟩ := by
          obtain ⟨g9, c9, e9⟩ := own_slice' L9.out.o.x (by rw [HL2.out]; omega)
          cases e9
          exact ⟨_, rfl⟩
        subst hB9
        go_upto_region 9 with (fail)
        apply wp_region_H (Z := Option (Int × Bool)) (S := fun k => k == 5 || k == 6 || k == 7) (C := fun z w' => Hid (∃ kk, kk ≤ k9 + 2 ∧ (z = none → kk = k9) ∧ Ls w R w.heap.size lo N1 kv (.slice SA m SC) q (.slice (some ⟨B9, 0, none⟩) m XC) (.slice TA m TC) keys ss (lsx xs a z) ts kk w')) [0, 1, 2, 3, 4] none
        · kernel_rfl
        · kernel_rfl
        · kernel_rfl
        · exact ⟨rfl, rfl, rfl, rfl, rfl, trivial⟩
        · rfl
        · decide
        · exact Lib.hid ⟨k9, by omega, fun _ => rfl, L9.out.on (Below.refl _ _).drew⟩
        · intro z
          dsimp only [pickL, nthO]
          repeat (first | go_big_quiet_skip | (go_big_quiet_want; go_big_quiet_op; first | go_big_quiet_on | (refine ⟨_, fun _ _ => rfl, ?_⟩; go_big_quiet_on)))
          go_big_quiet_want
          go_big_quiet_op
          refine ⟨(.slice (some ⟨B9, 0, none⟩) m XC), fun w' hw' => ?_, ?_⟩
          · obtain ⟨_, _, _, hL⟩ := hw'.out
            have q0 := hL.b1.cell 2
            simp at q0
            simp [go_sem, q0]
          go_big_quiet_on
          repeat (first | go_big_quiet_skip | (go_big_quiet_want; go_big_quiet_op; first | go_big_quiet_on | (refine ⟨_, fun _ _ => rfl, ?_⟩; go_big_quiet_on)))
          exact wpQuiet_nil rfl
        · skip
          refine wpAnyH_call (i := 5) (d := some 69) 63 #[.pointer (some ⟨R, 0, none⟩), .int .i64 g, .int .i64 9] rfl (by kernel_rfl) rfl rfl (by kernel_rfl) (fun _ => by kernel_rfl) fun wa hc => ?_
          obtain ⟨kk, hkk, hkz, hL⟩ := hc.out
          obtain rfl := hkz rfl
          refine (drawexp_any R _ g 9 _ hL.rd (by omega) (by omega) (by omega)).mono ?_
          rintro e wb ⟨v, rfl, _, _, gg, k10, hk10, rr⟩
          have hL2 := Lib.hid (hL.draw gg rr)
          refine ⟨_, rfl, some (v, false), Lib.hid ⟨k10, by omega, fun e => (by cases e), hL2.out⟩, ?_⟩
          clear gg rr hL hL2 hc
          refine wpAnyH_special (i := 6) (d := some 70) rfl (by kernel_rfl) rfl rfl (by kernel_rfl) fun wp hp => ⟨.pointer (some ⟨B9, a, none⟩), wp, some (v, false), .inl (by simp [go_sem, Act.put]; omega), hp, ?_⟩
          clear hp
          refine wpAnyH_special (i := 7) (d := none) rfl (by kernel_rfl) rfl rfl (by kernel_rfl) fun we he => ?_
          obtain ⟨k11, hk11, _, hL⟩ := he.out
          obtain ⟨⟨f0, c0⟩, o6, g6⟩ := hL.o.x.set (show (lsx xs a (some (v, false))).length = m from HL2.out) ha v
          refine ⟨undef, we.setCell ⟨B9, a, none⟩ (.int .i64 v), some (v, true), .inr ⟨by simp [go_sem, Act.put, f0, c0], rfl⟩, Lib.hid ⟨k11, hk11, fun e => (by cases e), hL.putx o6 g6⟩, ?_⟩
          clear f0 c0 o6 g6 hL he
          refine ⟨by kernel_rfl, fun w10 hz => ?_⟩
          obtain ⟨k12, hk12, _, hL⟩ := hz.out
          have L12 := Lib.hid hL.lf
          simp only [Act.put, List.setIfInBounds_toArray, List.set_cons_zero, List.set_cons_succ]
          clear hL hz
          go_wp2_with fail
          apply wp_region_H (Z := Bool) (S := fun k => k == 7) (C := fun z w' => Hid (Lf w R w.heap.size (if z then [(.slice SA m SC), .int .i64 q, .slice (some ⟨B9, 0, none⟩) m XC, .slice TA m TC] else [.slice none 0 0, .int .i64 0, .slice none 0 0, .slice none 0 0]) kv (.slice SA m SC) q (.slice (some ⟨B9, 0, none⟩) m XC) (.slice TA m TC) keys ss (lsx xs a (some (v, true))) ts k12 N1 w')) [0, 1, 2, 3] false
          · kernel_rfl
          · kernel_rfl
          · kernel_rfl
          · exact ⟨rfl, rfl, rfl, rfl, trivial⟩
          · rfl
          · decide
          · exact Lib.hid (L12.out.on (Below.refl _ _).drew)
          · intro z
            dsimp only [pickL, nthO]
            repeat (first | go_big_quiet_skip | (go_big_quiet_want; go_big_quiet_op; first | go_big_quiet_on | (refine ⟨_, fun _ _ => rfl, ?_⟩; go_big_quiet_on)))
            go_big_quiet_want
            go_big_quiet_op
            refine ⟨.agg #[(.slice SA m SC), .int .i64 q, .slice (some ⟨B9, 0, none⟩) m XC, .slice TA m TC], fun w' hw' => ?_, ?_⟩
            · have q0 := hw'.out.b1.cell 0; have q1 := hw'.out.b1.cell 1; have q2 := hw'.out.b1.cell 2; have q3 := hw'.out.b1.cell 3
              simp at q0 q1 q2 q3
              simp [go_sem, q0, q1, q2, q3]
            go_big_quiet_on
            repeat (first | go_big_quiet_skip | (go_big_quiet_want; go_big_quiet_op; first | go_big_quiet_on | (refine ⟨_, fun _ _ => rfl, ?_⟩; go_big_quiet_on)))
            exact wpQuiet_nil rfl
          · skip
            refine wpAnyH_take (i := 4) (d := some 2) (.int .i64 g) rfl (by kernel_rfl) rfl rfl (by kernel_rfl) (by kernel_rfl) (by kernel_rfl) (fun _ => by kernel_rfl) ?_
            refine wpAnyH_take (i := 5) (d := some 3) (kv) rfl (by kernel_rfl) rfl rfl (by kernel_rfl) (by kernel_rfl) (by kernel_rfl) (fun _ => by kernel_rfl) ?_
            refine wpAnyH_take (i := 6) (d := some 4) (.int .i64 need) rfl (by kernel_rfl) rfl rfl (by kernel_rfl) (by kernel_rfl) (by kernel_rfl) (fun _ => by kernel_rfl) ?_
            refine wpAnyH_special (i := 7) (d := none) rfl (by kernel_rfl) rfl rfl (by kernel_rfl) fun we he => ?_
            have z0 := he.out.b0.cell 0; have z1 := he.out.b0.cell 1; have z2 := he.out.b0.cell 2; have z3 := he.out.b0.cell 3; have f0 := he.out.b0.frozen 0; have f1 := he.out.b0.frozen 1; have f2 := he.out.b0.frozen 2; have f3 := he.out.b0.frozen 3
            simp at z0 z1 z2 z3
            refine ⟨undef, (((we.setCell ⟨w.heap.size, 0, none⟩ (.slice SA m SC)).setCell ⟨w.heap.size, 1, none⟩ (.int .i64 q)).setCell ⟨w.heap.size, 2, none⟩ (.slice (some ⟨B9, 0, none⟩) m XC)).setCell ⟨w.heap.size, 3, none⟩ (.slice TA m TC), true, .inr ⟨by simp [go_sem, Act.put, z0, z1, z2, z3, f0, f1, f2, f3], rfl⟩, Lib.hid (he.out.put _ _ _ _), ?_⟩
            clear he z0 z1 z2 z3 f0 f1 f2 f3
            refine ⟨by kernel_rfl, fun wy hz => ?_⟩
            have FN := Lib.hid hz.out.res
            have z0 := hz.out.b0.cell 0; have z1 := hz.out.b0.cell 1; have z2 := hz.out.b0.cell 2; have z3 := hz.out.b0.cell 3
            simp at z0 z1 z2 z3
            simp only [Act.put, List.setIfInBounds_toArray, List.set_cons_zero, List.set_cons_succ]
            go_wp2
            refine bodyPost_ret (v := .tuple #[.int .i64 g, kv, .int .i64 need, .agg #[(.slice SA m SC), .int .i64 q, .slice (some ⟨B9, 0, none⟩) m XC, .slice TA m TC]]) ?_ rfl ?_
            · simp [results, Tryd.results61, go_sem, z0, z1, z2, z3]
            · exact ⟨g, kv, keys, need, _, q, _, _, ss, (lsx xs a (some (v, true))), ts, k12, rfl, hg, hd, hl, by rw [HL1.out]; omega, by rw [lsx_len, HL2.out]; omega, by rw [HL3.out]; omega, by omega, FN.out.1, FN.out.2.1, FN.out.2.2.1, FN.out.2.2.2.1, FN.out.2.2.2.2.1, FN.out.2.2.2.2.2⟩
      · clear p0 p2
        obtain ⟨B9, hB9⟩ : ∃ B, TA = some ⟨B, 0, none⟩ := by
          obtain ⟨g9, c9, e9⟩ := own_slice' L9.out.o.t (by rw [HL3.out]; omega)
          cases e9
          exact ⟨_, rfl⟩
        subst hB9
        go_upto_region 11 with (fail)
        apply wp_region_H (Z := Option (Int × Bool)) (S := fun k => k == 5 || k == 6 || k == 7) (C := fun z w' => Hid (∃ kk, kk ≤ k9 + 2 ∧ (z = none → kk = k9) ∧ Ls w R w.heap.size lo N1 kv (.slice SA m SC) q (.slice XA m XC) (.slice (some ⟨B9, 0, none⟩) m TC) keys ss xs (lsx ts a z) kk w')) [0, 1, 2, 3, 4] none
        · kernel_rfl
        · kernel_rfl
        · kernel_rfl
        · exact ⟨rfl, rfl, rfl, rfl, rfl, trivial⟩
        · rfl
        · decide
        · exact Lib.hid ⟨k9, by omega, fun _ => rfl, L9.out.on (Below.refl _ _).drew⟩
        · intro z
          dsimp only [pickL, nthO]
          repeat (first | go_big_quiet_skip | (go_big_quiet_want; go_big_quiet_op; first | go_big_quiet_on | (refine ⟨_, fun _ _ => rfl, ?_⟩; go_big_quiet_on)))
          go_big_quiet_want
          go_big_quiet_op
          refine ⟨(.slice (some ⟨B9, 0, none⟩) m TC), fun w' hw' => ?_, ?_⟩
          · obtain ⟨_, _, _, hL⟩ := hw'.out
            have q0 := hL.b1.cell 3
            simp at q0
            simp [go_sem, q0]
          go_big_quiet_on
          repeat (first | go_big_quiet_skip | (go_big_quiet_want; go_big_quiet_op; first | go_big_quiet_on | (refine ⟨_, fun _ _ => rfl, ?_⟩; go_big_quiet_on)))
          exact wpQuiet_nil rfl
        · skip
          refine wpAnyH_call (i := 5) (d := some 78) 63 #[.pointer (some ⟨R, 0, none⟩), .int .i64 g, .int .i64 9] rfl (by kernel_rfl) rfl rfl (by kernel_rfl) (fun _ => by kernel_rfl) fun wa hc => ?_
          obtain ⟨kk, hkk, hkz, hL⟩ := hc.out
          obtain rfl := hkz rfl
          refine (drawexp_any R _ g 9 _ hL.rd (by omega) (by omega) (by omega)).mono ?_
          rintro e wb ⟨v, rfl, _, _, gg, k10, hk10, rr⟩
          have hL2 := Lib.hid (hL.draw gg rr)
          refine ⟨_, rfl, some (v, false), Lib.hid ⟨k10, by omega, fun e => (by cases e), hL2.out⟩, ?_⟩
          clear gg rr hL hL2 hc
          refine wpAnyH_special (i := 6) (d := some 79) rfl (by kernel_rfl) rfl rfl (by kernel_rfl) fun wp hp => ⟨.pointer (some ⟨B9, a, none⟩), wp, some (v, false), .inl (by simp [go_sem, Act.put]; omega), hp, ?_⟩
          clear hp
          refine wpAnyH_special (i := 7) (d := none) rfl (by kernel_rfl) rfl rfl (by kernel_rfl) fun we he => ?_
          obtain ⟨k11, hk11, _, hL⟩ := he.out
          obtain ⟨⟨f0, c0⟩, o6, g6⟩ := hL.o.t.set (show (lsx ts a (some (v, false))).length = m from HL3.out) ha v
          refine ⟨undef, we.setCell ⟨B9, a, none⟩ (.int .i64 v), some (v, true), .inr ⟨by simp [go_sem, Act.put, f0, c0], rfl⟩, Lib.hid ⟨k11, hk11, fun e => (by cases e), hL.putt o6 g6⟩, ?_⟩
          clear f0 c0 o6 g6 hL he
          refine ⟨by kernel_rfl, fun w10 hz => ?_⟩
          obtain ⟨k12, hk12, _, hL⟩ := hz.out
          have L12 := Lib.hid hL.lf
          simp only [Act.put, List.setIfInBounds_toArray, List.set_cons_zero, List.set_cons_succ]
          clear hL hz
          go_wp2_with fail
          apply wp_region_H (Z := Bool) (S := fun k => k == 7) (C := fun z w' => Hid (Lf w R w.heap.size (if z then [(.slice SA m SC), .int .i64 q, .slice XA m XC, .slice (some ⟨B9, 0, none⟩) m TC] else [.slice none 0 0, .int .i64 0, .slice none 0 0, .slice none 0 0]) kv (.slice SA m SC) q (.slice XA m XC) (.slice (some ⟨B9, 0, none⟩) m TC) keys ss xs (lsx ts a (some (v, true))) k12 N1 w')) [0, 1, 2, 3] false
          · kernel_rfl
          · kernel_rfl
          · kernel_rfl
          · exact ⟨rfl, rfl, rfl, rfl, trivial⟩
          · rfl
          · decide
          · exact Lib.hid (L12.out.on (Below.refl _ _).drew)
          · intro z
            dsimp only [pickL, nthO]
            repeat (first | go_big_quiet_skip | (go_big_quiet_want; go_big_quiet_op; first | go_big_quiet_on | (refine ⟨_, fun _ _ => rfl, ?_⟩; go_big_quiet_on)))
            go_big_quiet_want
            go_big_quiet_op
            refine ⟨.agg #[(.slice SA m SC), .int .i64 q, .slice XA m XC, .slice (some ⟨B9, 0, none⟩) m TC], fun w' hw' => ?_, ?_⟩
            · have q0 := hw'.out.b1.cell 0; have q1 := hw'.out.b1.cell 1; have q2 := hw'.out.b1.cell 2; have q3 := hw'.out.b1.cell 3
              simp at q0 q1 q2 q3
              simp [go_sem, q0, q1, q2, q3]
            go_big_quiet_on
            repeat (first | go_big_quiet_skip | (go_big_quiet_want; go_big_quiet_op; first | go_big_quiet_on | (refine ⟨_, fun _ _ => rfl, ?_⟩; go_big_quiet_on)))
            exact wpQuiet_nil rfl
          · skip
            refine wpAnyH_take (i := 4) (d := some 2) (.int .i64 g) rfl (by kernel_rfl) rfl rfl (by kernel_rfl) (by kernel_rfl) (by kernel_rfl) (fun _ => by kernel_rfl) ?_
            refine wpAnyH_take (i := 5) (d := some 3) (kv) rfl (by kernel_rfl) rfl rfl (by kernel_rfl) (by kernel_rfl) (by kernel_rfl) (fun _ => by kernel_rfl) ?_
            refine wpAnyH_take (i := 6) (d := some 4) (.int .i64 need) rfl (by kernel_rfl) rfl rfl (by kernel_rfl) (by kernel_rfl) (by kernel_rfl) (fun _ => by kernel_rfl) ?_
            refine wpAnyH_special (i := 7) (d := none) rfl (by kernel_rfl) rfl rfl (by kernel_rfl) fun we he => ?_
            have z0 := he.out.b0.cell 0; have z1 := he.out.b0.cell 1; have z2 := he.out.b0.cell 2; have z3 := he.out.b0.cell 3; have f0 := he.out.b0.frozen 0; have f1 := he.out.b0.frozen 1; have f2 := he.out.b0.frozen 2; have f3 := he.out.b0.frozen 3
            simp at z0 z1 z2 z3
            refine ⟨undef, (((we.setCell ⟨w.heap.size, 0, none⟩ (.slice SA m SC)).setCell ⟨w.heap.size, 1, none⟩ (.int .i64 q)).setCell ⟨w.heap.size, 2, none⟩ (.slice XA m XC)).setCell ⟨w.heap.size, 3, none⟩ (.slice (some ⟨B9, 0, none⟩) m TC), true, .inr ⟨by simp [go_sem, Act.put, z0, z1, z2, z3, f0, f1, f2, f3], rfl⟩, Lib.hid (he.out.put _ _ _ _), ?_⟩
            clear he z0 z1 z2 z3 f0 f1 f2 f3
            refine ⟨by kernel_rfl, fun wy hz => ?_⟩
            have FN := Lib.hid hz.out.res
            have z0 := hz.out.b0.cell 0; have z1 := hz.out.b0.cell 1; have z2 := hz.out.b0.cell 2; have z3 := hz.out.b0.cell 3
            simp at z0 z1 z2 z3
            simp only [Act.put, List.setIfInBounds_toArray, List.set_cons_zero, List.set_cons_succ]
            go_wp2
            refine bodyPost_ret (v := .tuple #[.int .i64 g, kv, .int .i64 need, .agg #[(.slice SA m SC), .int .i64 q, .slice XA m XC, .slice (some ⟨B9, 0, none⟩) m TC]]) ?_ rfl ?_
            · simp [results, Tryd.results61, go_sem, z0, z1, z2, z3]
            · exact ⟨g, kv, keys, need, _, q, _, _, ss, xs, (lsx ts a (some (v, true))), k12, rfl, hg, hd, hl, by rw [HL1.out]; omega, by rw [HL2.out]; omega, by rw [lsx_len, HL3.out]; omega, by omega, FN.out.1, FN.out.2.1, FN.out.2.2.1, FN.out.2.2.2.1, FN.out.2.2.2.2.1, FN.out.2.2.2.2.2⟩
      · clear p0 p2
        have sz := L9.out.sz
        have q0 := L9.out.b1.cell 0
        simp at q0
        have fz := L9.out.b1.frozen 0
        have ov := L9.out.o.s
        have n2 := L9.out.n2
        go_wp2_with (at_builtin; refine wpAppInt rfl _ _ rfl rfl ov (by rw [HL1.out]; omega) (by omega) rfl ?_)
        intro v11 w11 o11 g11 k11
        have L12 := Lib.hid (L9.out.more o11 g11 k11)
        obtain ⟨VA, VC, ev⟩ := Own.form o11
        rw [List.length_append, HL1.out] at ev
        simp only [List.length_cons, List.length_nil, Nat.zero_add] at ev
        subst ev
        have hb8 : w11.heap[N1]? = w9.heap[N1]? := g11.block _ sz fun e => by have := L9.out.o.his _ e.symm; omega
        have ax := (box_same L9.out.b1 hb8).cell 0
        have fx := (box_same L9.out.b1 hb8).frozen 0
        simp at ax
        clear o11 g11 k11 ov L9 q0 fz hb8
        go_upto_region 12 with (fail)
        obtain ⟨w12, hw12⟩ : ∃ z, z = w11.setCell ⟨N1, 0, none⟩ (.slice VA (m + 1) VC) := ⟨_, rfl⟩
        rw [← hw12] at L12 ⊢
        clear hw12 ax fx
        go_wp2_with fail
        apply wp_region_H (Z := Bool) (S := fun k => k == 7) (C := fun z w' => Hid (Lf w R w.heap.size (if z then [(.slice VA (m + 1) VC), .int .i64 q, .slice XA m XC, .slice TA m TC] else [.slice none 0 0, .int .i64 0, .slice none 0 0, .slice none 0 0]) kv (.slice VA (m + 1) VC) q (.slice XA m XC) (.slice TA m TC) keys (ss ++ [1]) xs ts k9 N1 w')) [0, 1, 2, 3] false
        · kernel_rfl
        · kernel_rfl
        · kernel_rfl
        · exact ⟨rfl, rfl, rfl, rfl, trivial⟩
        · rfl
        · decide
        · exact Lib.hid (L12.out.on (Below.refl _ _).drew)
        · intro z
          dsimp only [pickL, nthO]
          repeat (first | go_big_quiet_skip | (go_big_quiet_want; go_big_quiet_op; first | go_big_quiet_on | (refine ⟨_, fun _ _ => rfl, ?_⟩; go_big_quiet_on)))
          go_big_quiet_want
          go_big_quiet_op
          refine ⟨.agg #[(.slice VA (m + 1) VC), .int .i64 q, .slice XA m XC, .slice TA m TC], fun w' hw' => ?_, ?_⟩
          · have q0 := hw'.out.b1.cell 0; have q1 := hw'.out.b1.cell 1; have q2 := hw'.out.b1.cell 2; have q3 := hw'.out.b1.cell 3
            simp at q0 q1 q2 q3
            simp [go_sem, q0, q1, q2, q3]
          go_big_quiet_on
          repeat (first | go_big_quiet_skip | (go_big_quiet_want; go_big_quiet_op; first | go_big_quiet_on | (refine ⟨_, fun _ _ => rfl, ?_⟩; go_big_quiet_on)))
          exact wpQuiet_nil rfl
        · skip
          refine wpAnyH_take (i := 4) (d := some 2) (.int .i64 g) rfl (by kernel_rfl) rfl rfl (by kernel_rfl) (by kernel_rfl) (by kernel_rfl) (fun _ => by kernel_rfl) ?_
          refine wpAnyH_take (i := 5) (d := some 3) (kv) rfl (by kernel_rfl) rfl rfl (by kernel_rfl) (by kernel_rfl) (by kernel_rfl) (fun _ => by kernel_rfl) ?_
          refine wpAnyH_take (i := 6) (d := some 4) (.int .i64 need) rfl (by kernel_rfl) rfl rfl (by kernel_rfl) (by kernel_rfl) (by kernel_rfl) (fun _ => by kernel_rfl) ?_
          refine wpAnyH_special (i := 7) (d := none) rfl (by kernel_rfl) rfl rfl (by kernel_rfl) fun we he => ?_
          have z0 := he.out.b0.cell 0; have z1 := he.out.b0.cell 1; have z2 := he.out.b0.cell 2; have z3 := he.out.b0.cell 3; have f0 := he.out.b0.frozen 0; have f1 := he.out.b0.frozen 1; have f2 := he.out.b0.frozen 2; have f3 := he.out.b0.frozen 3
          simp at z0 z1 z2 z3
          refine ⟨undef, (((we.setCell ⟨w.heap.size, 0, none⟩ (.slice VA (m + 1) VC)).setCell ⟨w.heap.size, 1, none⟩ (.int .i64 q)).setCell ⟨w.heap.size, 2, none⟩ (.slice XA m XC)).setCell ⟨w.heap.size, 3, none⟩ (.slice TA m TC), true, .inr ⟨by simp [go_sem, Act.put, z0, z1, z2, z3, f0, f1, f2, f3], rfl⟩, Lib.hid (he.out.put _ _ _ _), ?_⟩
          clear he z0 z1 z2 z3 f0 f1 f2 f3
          refine ⟨by kernel_rfl, fun wy hz => ?_⟩
          have FN := Lib.hid hz.out.res
          have z0 := hz.out.b0.cell 0; have z1 := hz.out.b0.cell 1; have z2 := hz.out.b0.cell 2; have z3 := hz.out.b0.cell 3
          simp at z0 z1 z2 z3
          simp only [Act.put, List.setIfInBounds_toArray, List.set_cons_zero, List.set_cons_succ]
          go_wp2
          refine bodyPost_ret (v := .tuple #[.int .i64 g, kv, .int .i64 need, .agg #[(.slice VA (m + 1) VC), .int .i64 q, .slice XA m XC, .slice TA m TC]]) ?_ rfl ?_
          · simp [results, Tryd.results61, go_sem, z0, z1, z2, z3]
          · exact ⟨g, kv, keys, need, _, q, _, _, (ss ++ [1]), xs, ts, k9, rfl, hg, hd, hl, by rw [List.length_append, HL1.out]; simp; omega, by rw [HL2.out]; omega, by rw [HL3.out]; omega, by omega, FN.out.1, FN.out.2.1, FN.out.2.2.1, FN.out.2.2.2.1, FN.out.2.2.2.2.1, FN.out.2.2.2.2.2⟩
    · have hm1 : ¬ (m : Int) > 0 := by omega
      have hmd : decide ((m : Int) > 0) = false := by simp; omega
      have q2 := L7.out.b1.cell 2
      simp at q2
      have L8 := Lib.hid L7.out.lf
      clear L7
      go_wp2_with fail
      apply wp_region_H (Z := Bool) (S := fun k => k == 7) (C := fun z w' => Hid (Lf w R w.heap.size (if z then [(.slice SA m SC), .int .i64 q, .slice XA m XC, .slice TA m TC] else [.slice none 0 0, .int .i64 0, .slice none 0 0, .slice none 0 0]) kv (.slice SA m SC) q (.slice XA m XC) (.slice TA m TC) keys ss xs ts k7 N1 w')) [0, 1, 2, 3] false
      · kernel_rfl
      · kernel_rfl
      · kernel_rfl
      · exact ⟨rfl, rfl, rfl, rfl, trivial⟩
      · rfl
      · decide
      · exact Lib.hid (L8.out.on (Below.refl _ _).drew)
      · intro z
        dsimp only [pickL, nthO]
        repeat (first | go_big_quiet_skip | (go_big_quiet_want; go_big_quiet_op; first | go_big_quiet_on | (refine ⟨_, fun _ _ => rfl, ?_⟩; go_big_quiet_on)))
        go_big_quiet_want
        go_big_quiet_op
        refine ⟨.agg #[(.slice SA m SC), .int .i64 q, .slice XA m XC, .slice TA m TC], fun w' hw' => ?_, ?_⟩
        · have q0 := hw'.out.b1.cell 0; have q1 := hw'.out.b1.cell 1; have q2 := hw'.out.b1.cell 2; have q3 := hw'.out.b1.cell 3
          simp at q0 q1 q2 q3
          simp [go_sem, q0, q1, q2, q3]
        go_big_quiet_on
        repeat (first | go_big_quiet_skip | (go_big_quiet_want; go_big_quiet_op; first | go_big_quiet_on | (refine ⟨_, fun _ _ => rfl, ?_⟩; go_big_quiet_on)))
        exact wpQuiet_nil rfl
      · skip
        refine wpAnyH_take (i := 4) (d := some 2) (.int .i64 g) rfl (by kernel_rfl) rfl rfl (by kernel_rfl) (by kernel_rfl) (by kernel_rfl) (fun _ => by kernel_rfl) ?_
        refine wpAnyH_take (i := 5) (d := some 3) (kv) rfl (by kernel_rfl) rfl rfl (by kernel_rfl) (by kernel_rfl) (by kernel_rfl) (fun _ => by kernel_rfl) ?_
        refine wpAnyH_take (i := 6) (d := some 4) (.int .i64 need) rfl (by kernel_rfl) rfl rfl (by kernel_rfl) (by kernel_rfl) (by kernel_rfl) (fun _ => by kernel_rfl) ?_
        refine wpAnyH_special (i := 7) (d := none) rfl (by kernel_rfl) rfl rfl (by kernel_rfl) fun we he => ?_
        have z0 := he.out.b0.cell 0; have z1 := he.out.b0.cell 1; have z2 := he.out.b0.cell 2; have z3 := he.out.b0.cell 3; have f0 := he.out.b0.frozen 0; have f1 := he.out.b0.frozen 1; have f2 := he.out.b0.frozen 2; have f3 := he.out.b0.frozen 3
        simp at z0 z1 z2 z3
        refine ⟨undef, (((we.setCell ⟨w.heap.size, 0, none⟩ (.slice SA m SC)).setCell ⟨w.heap.size, 1, none⟩ (.int .i64 q)).setCell ⟨w.heap.size, 2, none⟩ (.slice XA m XC)).setCell ⟨w.heap.size, 3, none⟩ (.slice TA m TC), true, .inr ⟨by simp [go_sem, Act.put, z0, z1, z2, z3, f0, f1, f2, f3], rfl⟩, Lib.hid (he.out.put _ _ _ _), ?_⟩
        clear he z0 z1 z2 z3 f0 f1 f2 f3
        refine ⟨by kernel_rfl, fun wy hz => ?_⟩
        have FN := Lib.hid hz.out.res
        have z0 := hz.out.b0.cell 0; have z1 := hz.out.b0.cell 1; have z2 := hz.out.b0.cell 2; have z3 := hz.out.b0.cell 3
        simp at z0 z1 z2 z3
        simp only [Act.put, List.setIfInBounds_toArray, List.set_cons_zero, List.set_cons_succ]
        go_wp2
        refine bodyPost_ret (v := .tuple #[.int .i64 g, kv, .int .i64 need, .agg #[(.slice SA m SC), .int .i64 q, .slice XA m XC, .slice TA m TC]]) ?_ rfl ?_
        · simp [results, Tryd.results61, go_sem, z0, z1, z2, z3]
        · exact ⟨g, kv, keys, need, _, q, _, _, ss, xs, ts, k7, rfl, hg, hd, hl, by rw [HL1.out]; omega, by rw [HL2.out]; omega, by rw [HL3.out]; omega, by omega, FN.out.1, FN.out.2.1, FN.out.2.2.1, FN.out.2.2.2.1, FN.out.2.2.2.2.1, FN.out.2.2.2.2.2⟩
end Go.Proofs.YtacalanlepjljaaDoor
