/- l20WordsFor: a relation and two talks on it. -/
import Derived.Test.YtclihkcigppgjaaDoorDrawI
import Derived.Test.YtclihkcigppgjaaDoorDrawE
import Derived.Deep.Cut
namespace Go.Proofs.YtclihkcigppgjaaDoor
open Go.RowKit

/-- A relation and two talks, in memory above block R. -/
def WfPost (R : Nat) (w : World) (e : Ending) (w' : World) : Prop :=
  ∃ (g : Int) (rv mv sv : Value) (q : Int) (tv sv2 : Value) (q2 : Int) (tv2 : Value) (rows : List (List Int)) (makes ss ts ss2 ts2 : List Int), e = .returned (.tuple #[.agg #[.int .i64 g, rv, mv], .agg #[sv, .int .i64 q, tv], .agg #[sv2, .int .i64 q2, tv2]]) ∧
    (∀ w'', Above R w' w'' → Cw w'' rv mv rows makes ∧ (Ints w'' sv ss ∧ Ints w'' tv ts) ∧ Ints w'' sv2 ss2 ∧ Ints w'' tv2 ts2) ∧ w.grownBy w' (some R)
def pt3 (w : World) (N : Nat) (x y z : Value) : World := ((w.setCell ⟨N, 0, none⟩ x).setCell ⟨N, 1, none⟩ y).setCell ⟨N, 2, none⟩ z
theorem pt3_block (w : World) (N : Nat) (x y z : Value) {q : Nat} (hq : q ≠ N) : (pt3 w N x y z).heap[q]? = w.heap[q]? := (Below.heap_setCell _ _ _ _ hq).trans ((Below.heap_setCell _ _ _ _ hq).trans (Below.heap_setCell _ _ _ _ hq))
theorem pt3_size (w : World) (N : Nat) (x y z : Value) : (pt3 w N x y z).heap.size = w.heap.size := by simp [pt3, World.setCell]
theorem pt3_box {w : World} {N : Nat} {x y z a b c : Value} (h : Box w N [a, b, c]) : Box (pt3 w N x y z) N [x, y, z] := ((h.set 0 x).set 1 y).set 2 z
/-- The answers written one by one. -/
structure Q9 (w : World) (R : Nat) (w2 : World) (Nc : Nat) (P A B : List Value) (q : Int) (ss ts : List Int) (sv tv : Value) (Na lo : Nat) (q2 : Int) (ss2 ts2 : List Int) (sv2 tv2 : Value) (Nb j : Nat) (w' : World) : Prop where
  gr : w.grownBy w' (some R)
  ab : Above (w.heap.size + 3) w2 w'
  a : Wt w2.heap.size q ss ts sv tv Na w'
  b : Wt lo q2 ss2 ts2 sv2 tv2 Nb w'
  c : Box w' Nc P
  z2 : Box w' w.heap.size (if 1 ≤ j then P else [.int .i64 0, .slice none 0 0, .slice none 0 0])
  z3 : Box w' (w.heap.size + 1) (if 2 ≤ j then A else [.slice none 0 0, .int .i64 0, .slice none 0 0])
  z4 : Box w' (w.heap.size + 2) (if 3 ≤ j then B else [.slice none 0 0, .int .i64 0, .slice none 0 0])
  l2 : w.heap.size + 3 ≤ w2.heap.size
  ll : w2.heap.size ≤ lo
  lc : w.heap.size + 3 ≤ Nc
section
variable {w : World} {R : Nat} {w2 : World} {Nc : Nat} {g : Int} {rv mv sv tv sv2 tv2 : Value} {q q2 : Int} {ss ts ss2 ts2 : List Int} {Na lo Nb : Nat} {w' : World}
theorem Q9.base {P A B : List Value} {j N : Nat} {x y z : Value} (h : Q9 w R w2 Nc P A B q ss ts sv tv Na lo q2 ss2 ts2 sv2 tv2 Nb j w') (h1 : w.heap.size ≤ N) (h2 : N < w.heap.size + 3) :
    (w.grownBy (pt3 w' N x y z) (some R) ∧ Above (w.heap.size + 3) w2 (pt3 w' N x y z)) ∧ Wt w2.heap.size q ss ts sv tv Na (pt3 w' N x y z) ∧ Wt lo q2 ss2 ts2 sv2 tv2 Nb (pt3 w' N x y z) ∧ Box (pt3 w' N x y z) Nc P := by
  have k1 := h.l2; have k2 := h.ll; have k3 := h.lc
  refine ⟨⟨⟨h.gr.os, h.gr.tape, h.gr.output, by rw [pt3_size]; exact h.gr.size, fun q a b => (pt3_block _ _ _ _ _ (by omega)).trans (h.gr.block q a b)⟩, ⟨by rw [pt3_size]; exact h.ab.1, fun q a b => (pt3_block _ _ _ _ _ (by omega)).trans (h.ab.2 q a b)⟩⟩, ((h.a.off (by omega)).off (by omega)).off (by omega), ((h.b.off (by omega)).off (by omega)).off (by omega), h.c.kept (pt3_block _ _ _ _ _ (by omega))⟩
theorem Q9.put2 {A B : List Value} (h : Q9 w R w2 Nc [.int .i64 g, rv, mv] A B q ss ts sv tv Na lo q2 ss2 ts2 sv2 tv2 Nb 0 w') : Q9 w R w2 Nc [.int .i64 g, rv, mv] A B q ss ts sv tv Na lo q2 ss2 ts2 sv2 tv2 Nb 1 (pt3 w' w.heap.size (.int .i64 g) rv mv) := by
  obtain ⟨⟨a1, a2⟩, a3, a4, a5⟩ := h.base (x := .int .i64 g) (y := rv) (z := mv) (Nat.le_refl _) (by omega)
  exact ⟨a1, a2, a3, a4, a5, pt3_box h.z2, h.z3.kept (pt3_block _ _ _ _ _ (by omega)), h.z4.kept (pt3_block _ _ _ _ _ (by omega)), h.l2, h.ll, h.lc⟩
theorem Q9.put3 {P B : List Value} {x y z : Value} (h : Q9 w R w2 Nc P [x, y, z] B q ss ts sv tv Na lo q2 ss2 ts2 sv2 tv2 Nb 1 w') : Q9 w R w2 Nc P [x, y, z] B q ss ts sv tv Na lo q2 ss2 ts2 sv2 tv2 Nb 2 (pt3 w' (w.heap.size + 1) x y z) := by
  obtain ⟨⟨a1, a2⟩, a3, a4, a5⟩ := h.base (N := w.heap.size + 1) (x := x) (y := y) (z := z) (by omega) (by omega)
  exact ⟨a1, a2, a3, a4, a5, h.z2.kept (pt3_block _ _ _ _ _ (by omega)), pt3_box h.z3, h.z4.kept (pt3_block _ _ _ _ _ (by omega)), h.l2, h.ll, h.lc⟩
theorem Q9.put4 {P A : List Value} {x y z : Value} (h : Q9 w R w2 Nc P A [x, y, z] q ss ts sv tv Na lo q2 ss2 ts2 sv2 tv2 Nb 2 w') : Q9 w R w2 Nc P A [x, y, z] q ss ts sv tv Na lo q2 ss2 ts2 sv2 tv2 Nb 3 (pt3 w' (w.heap.size + 2) x y z) := by
  obtain ⟨⟨a1, a2⟩, a3, a4, a5⟩ := h.base (N := w.heap.size + 2) (x := x) (y := y) (z := z) (by omega) (by omega)
  exact ⟨a1, a2, a3, a4, a5, h.z2.kept (pt3_block _ _ _ _ _ (by omega)), h.z3.kept (pt3_block _ _ _ _ _ (by omega)), pt3_box h.z4, h.l2, h.ll, h.lc⟩
theorem Q9.on {P A B : List Value} {j : Nat} {w3 : World} (h : Q9 w R w2 Nc P A B q ss ts sv tv Na lo q2 ss2 ts2 sv2 tv2 Nb j w') (hb : Below w'.heap.size w' w3) : Q9 w R w2 Nc P A B q ss ts sv tv Na lo q2 ss2 ts2 sv2 tv2 Nb j w3 :=
  ⟨grown_trans h.gr (grown_below R hb), h.ab.trans (Above.below hb), h.a.on hb, h.b.on hb, h.c.on hb, h.z2.on hb, h.z3.on hb, h.z4.on hb, h.l2, h.ll, h.lc⟩
end

set_option maxRecDepth 20000 in
set_option maxHeartbeats 6400000 in
theorem drawwf_any (R k : Nat) (w : World) (h : Rd w R k) (hk : k ≤ 10000) : Calls Tryd.prog 40 #[.pointer (some ⟨R, 0, none⟩)] w (WfPost R w) := by
  have hR := h.lt
  obtain ⟨W0, hW0⟩ : ∃ W, W = ((w.alloc (.cells #[.int .i64 0, .slice none 0 0, .slice none 0 0] 26)).alloc (.cells #[.slice none 0 0, .int .i64 0, .slice none 0 0] 28)).alloc (.cells #[.slice none 0 0, .int .i64 0, .slice none 0 0] 28) := ⟨_, rfl⟩
  have hs0 : W0.heap.size = w.heap.size + 3 := by rw [hW0]; simp
  have hb0 : Below w.heap.size w W0 := by rw [hW0]; exact ((below_grow w _).alloc (by simp) _).alloc (by simp; omega) _
  have z0 : Hid (Box W0 w.heap.size [.int .i64 0, .slice none 0 0, .slice none 0 0]) := Lib.hid (by rw [hW0]; exact ((Box.made w _ _).alloc _).alloc _)
  have z1 : Hid (Box W0 (w.heap.size + 1) [.slice none 0 0, .int .i64 0, .slice none 0 0]) := Lib.hid (by rw [hW0]; have := (Box.made (w.alloc (.cells #[.int .i64 0, .slice none 0 0, .slice none 0 0] 26)) [.slice none 0 0, .int .i64 0, .slice none 0 0] 28).alloc (.cells #[.slice none 0 0, .int .i64 0, .slice none 0 0] 28); simpa using this)
  have z2 : Hid (Box W0 (w.heap.size + 2) [.slice none 0 0, .int .i64 0, .slice none 0 0]) := Lib.hid (by rw [hW0]; have := Box.made ((w.alloc (.cells #[.int .i64 0, .slice none 0 0, .slice none 0 0] 26)).alloc (.cells #[.slice none 0 0, .int .i64 0, .slice none 0 0] 28)) [.slice none 0 0, .int .i64 0, .slice none 0 0] 28; simpa using this)
  have RD0 := Lib.hid (h.below hb0)
  have HB0 := Lib.hid hb0
  have HS0 := Lib.hid hs0
  clear h hb0
  go_enter Tryd.func40, Tryd.ntmps40
  go_wp2_with fail
  rw [← hW0]
  clear hW0 hs0
  refine (drawclaim_any R k 16 W0 RD0.out (by omega) (by omega) (by omega)).mono ?_
  rintro e w1 ⟨g, rv, mv, ev, rows, makes, es, rfl, hst, l1, l2, l3, l4, h0, h4, hcap, hg, k1, hk1, hr⟩
  obtain ⟨ra, rc, er, _⟩ := (hst _ (Above.refl _ _)).1.rows.opened
  obtain ⟨ma, mc, em, _⟩ := (hst _ (Above.refl _ _)).1.makes.opened
  obtain ⟨n, hn⟩ : ∃ n, rows.length = n := ⟨_, rfl⟩
  obtain ⟨m, hm⟩ : ∃ m, makes.length = m := ⟨_, rfl⟩
  rw [hn] at er l1
  rw [hm] at em
  subst er em
  have HN := Lib.hid hn
  have HST := Lib.hid hst
  have HG := Lib.hid hg
  have HR1 := Lib.hid hr
  have hs1 := hg.size
  have hs0 := HS0.out
  have hl4 := Lib.hid l4
  clear hst hg hr l2 l3 l4 hcap hn hm
  have p0 := (Box.made w1 [.int .i64 g, (.slice ra n rc), (.slice ma m mc)] 26).cell 0
  have p1 := (Box.made w1 [.int .i64 g, (.slice ra n rc), (.slice ma m mc)] 26).cell 1
  have p2 := (Box.made w1 [.int .i64 g, (.slice ra n rc), (.slice ma m mc)] 26).cell 2
  simp at p0 p1 p2
  go_wp2_with fail
  obtain ⟨v1, hv1⟩ : ∃ v, v = w1.alloc (.cells #[.int .i64 g, (.slice ra n rc), (.slice ma m mc)] 26) := ⟨_, rfl⟩
  have hb1 : Below w1.heap.size w1 v1 := by rw [hv1]; exact below_grow _ _
  have xc : Hid (Box v1 w1.heap.size [.int .i64 g, (.slice ra n rc), (.slice ma m mc)]) := Lib.hid (by rw [hv1]; exact Box.made w1 _ _)
  have hsv : v1.heap.size = w1.heap.size + 1 := by rw [hv1]; simp
  rw [← hv1]
  clear hv1 p0 p1 p2
  refine (drawexps_any R k1 g (.slice ra n rc) (.slice ma m mc) rows makes v1 (HR1.out.below hb1) (by omega) (fun w' ha => (HST.out w' (((Above.below hb1).trans ha).mono (by omega))).1)).mono ?_
  rintro e w2 ⟨fv, fs, rfl, of, hfl, _, hg2, k2, hk2, hr2⟩
  have hs2 := hg2.size
  obtain ⟨BX, hBX⟩ : ∃ B : List (Nat × List Value), B = [(w.heap.size, [.int .i64 0, .slice none 0 0, .slice none 0 0]), (w.heap.size + 1, [.slice none 0 0, .int .i64 0, .slice none 0 0]), (w.heap.size + 2, [.slice none 0 0, .int .i64 0, .slice none 0 0]), (w1.heap.size, [.int .i64 g, (.slice ra n rc), (.slice ma m mc)])] := ⟨_, rfl⟩
  have HBX := Lib.hid hBX
  have F2 : Hid (Fw w R (w.heap.size + 3) w2 BX w2 k2) := Lib.hid ⟨hr2, grown_trans (grown_below R HB0.out) (grown_trans HG.out (grown_trans (grown_below R hb1) hg2)), (fun p hp => by
    rw [hBX] at hp
    rcases List.mem_cons.1 hp with e | hp
    · subst e; exact ⟨by show w.heap.size < _; omega, by show w.heap.size ≠ R; omega, (((z0.out.drawn HG.out (by omega)).on hb1).drawn hg2 (by omega))⟩
    rcases List.mem_cons.1 hp with e | hp
    · subst e; exact ⟨by show w.heap.size + 1 < _; omega, by show w.heap.size + 1 ≠ R; omega, (((z1.out.drawn HG.out (by omega)).on hb1).drawn hg2 (by omega))⟩
    rcases List.mem_cons.1 hp with e | hp
    · subst e; exact ⟨by show w.heap.size + 2 < _; omega, by show w.heap.size + 2 ≠ R; omega, (((z2.out.drawn HG.out (by omega)).on hb1).drawn hg2 (by omega))⟩
    rcases List.mem_cons.1 hp with e | hp
    · subst e; exact ⟨by show w1.heap.size < _; omega, by show w1.heap.size ≠ R; omega, xc.out.drawn hg2 (by omega)⟩
    cases hp), Above.refl _ _, by omega, by omega, by omega⟩
  have ST := Lib.hid (show ∀ w'', Above (w.heap.size + 3) w2 w'' → Cw w'' (.slice ra n rc) (.slice ma m mc) rows makes ∧ Ints w'' ev es ∧ Ints w'' fv fs from fun w'' ha => by
    have hf : Ints w'' fv fs := Ints.of_own (own_heap of fun b hb => ha.2 b (by have := (of.lt b hb).1; omega) (of.lt b hb).2) (by unfold maxLen; omega)
    have hc := HST.out w'' (((Above.below hb1).trans ((Above.grown hg2).mono (by omega))).trans (by rw [HS0.out]; exact ha))
    exact ⟨hc.1, hc.2, hf⟩)
  have BC := Lib.hid (show (w1.heap.size, [.int .i64 g, (.slice ra n rc), (.slice ma m mc)]) ∈ BX by rw [hBX]; simp)
  have BZ0 := Lib.hid (show (w.heap.size, [.int .i64 0, .slice none 0 0, .slice none 0 0]) ∈ BX by rw [hBX]; simp)
  have BZ1 := Lib.hid (show (w.heap.size + 1, [.slice none 0 0, .int .i64 0, .slice none 0 0]) ∈ BX by rw [hBX]; simp)
  have BZ2 := Lib.hid (show (w.heap.size + 2, [.slice none 0 0, .int .i64 0, .slice none 0 0]) ∈ BX by rw [hBX]; simp)
  have hk2' : k2 ≤ k + 64 := by omega
  have hR2 : R < w2.heap.size := by omega
  have hl29 : w.heap.size + 3 ≤ w2.heap.size := by omega
  clear of hg2 hr2 hb1 xc hsv hBX HBX HG HR1 z0 z1 z2 HST RD0 HB0 hk1 hk2
  go_wp2_with fail
  apply wp_region_H (Z := Option Int × Option (Value × Value) × Option (Nat × Bool)) (S := fun k => k == 6 || k == 7 || k == 11 || k == 12) (C := fun z w' => Hid (Wz (Bf w R (w.heap.size + 3) w2 BX (kO k2 z.1)) w2.heap.size (wfQ g rows makes es fs z.1) (wfS g rows makes es fs z.1) (wfT g rows makes es fs z.1) z.2.1 z.2.2 w')) [0, 1, 2, 3, 4, 5] (none, none, none)
  · kernel_rfl
  · kernel_rfl
  · kernel_rfl
  · exact ⟨rfl, rfl, rfl, rfl, rfl, rfl, trivial⟩
  · kernel_rfl
  · decide
  · exact Lib.hid (Wz.start (⟨k2, Nat.le_refl _, F2.out.on (Below.refl _ _).drew⟩) (Nat.le_refl _))
  · intro z
    dsimp only [pickL, nthO]
    repeat (first | go_big_quiet_skip | (go_big_quiet_want; go_big_quiet_op; first | go_big_quiet_on | (refine ⟨_, fun _ _ => rfl, ?_⟩; go_big_quiet_on)))
    go_big_quiet_want
    go_big_quiet_op
    refine ⟨.agg #[.int .i64 g, (.slice ra n rc), (.slice ma m mc)], fun w' hw' => ?_, ?_⟩
    · obtain ⟨kq, _, fq⟩ := hw'.out.base
      have q0 := (fq.box BC.out).cell 0; have q1 := (fq.box BC.out).cell 1; have q2 := (fq.box BC.out).cell 2
      simp at q0 q1 q2
      simp [go_sem, q0, q1, q2]
    go_big_quiet_on
    repeat (first | go_big_quiet_skip | (go_big_quiet_want; go_big_quiet_op; first | go_big_quiet_on | (refine ⟨_, fun _ _ => rfl, ?_⟩; go_big_quiet_on)))
    repeat (first | go_big_quiet_skip | (go_big_quiet_want; go_big_quiet_op; first | go_big_quiet_on | (refine ⟨_, fun _ _ => rfl, ?_⟩; go_big_quiet_on)))
    repeat (first | go_big_quiet_skip | (go_big_quiet_want; go_big_quiet_op; first | go_big_quiet_on | (refine ⟨_, fun _ _ => rfl, ?_⟩; go_big_quiet_on)))
    repeat (first | go_big_quiet_skip | (go_big_quiet_want; go_big_quiet_op; first | go_big_quiet_on | (refine ⟨_, fun _ _ => rfl, ?_⟩; go_big_quiet_on)))
    go_big_quiet_want
    go_big_quiet_op
    refine ⟨.int .i64 g, fun w' hw' => ?_, ?_⟩
    · obtain ⟨kq, _, fq⟩ := hw'.out.base
      have q0 := (fq.box BC.out).cell 0
      simp at q0
      simp [go_sem, q0]
    go_big_quiet_on
    repeat (first | go_big_quiet_skip | (go_big_quiet_want; go_big_quiet_op; first | go_big_quiet_on | (refine ⟨_, fun _ _ => rfl, ?_⟩; go_big_quiet_on)))
    exact wpQuiet_nil rfl
  · refine wpAnyH_key (D := Nat × Int × (Option Addr × Nat) × (Option Addr × Nat))
      (fun d => (some d.2.1, some (.slice d.2.2.1.1 (wfS g rows makes es fs (some d.2.1)).length d.2.2.1.2, .slice d.2.2.2.1 (wfT g rows makes es fs (some d.2.1)).length d.2.2.2.2), some (d.1, true)))
      (fun d a => (((((((a.put (some 27) (.int .i64 d.2.1)).put (some 28) (.tuple #[.agg #[.slice d.2.2.1.1 (wfS g rows makes es fs (some d.2.1)).length d.2.2.1.2, .int .i64 (wfQ g rows makes es fs (some d.2.1)), .slice d.2.2.2.1 (wfT g rows makes es fs (some d.2.1)).length d.2.2.2.2], .bool (ofB g rows makes es fs d.2.1)])).put (some 20) (.tuple #[.agg #[.slice d.2.2.1.1 (wfS g rows makes es fs (some d.2.1)).length d.2.2.1.2, .int .i64 (wfQ g rows makes es fs (some d.2.1)), .slice d.2.2.2.1 (wfT g rows makes es fs (some d.2.1)).length d.2.2.2.2], .bool (ofB g rows makes es fs d.2.1)])).put (some 29) (.agg #[.slice d.2.2.1.1 (wfS g rows makes es fs (some d.2.1)).length d.2.2.1.2, .int .i64 (wfQ g rows makes es fs (some d.2.1)), .slice d.2.2.2.1 (wfT g rows makes es fs (some d.2.1)).length d.2.2.2.2])).put (some 30) (.bool (ofB g rows makes es fs d.2.1))).put (some 8) (.pointer (some ⟨d.1, 0, none⟩))).put (some 9) (.bool (ofB g rows makes es fs d.2.1)))) ?_ ?_
    · refine wpAnyH_two 6 11 (by kernel_rfl) ?_ ?_
      · refine hOp_call (i := 6) (d := some 27) 89 #[.pointer (some ⟨R, 0, none⟩), .int .i64 g, .int .i64 0] rfl rfl rfl (by kernel_rfl) (fun _ => by kernel_rfl) fun wa hc => ?_
        obtain ⟨ka, hka, hd⟩ := hc.out.base
        refine (drawex0_any R ka g wa h0 h4 hd.rd (by simp [kO] at hka; omega)).mono ?_
        rintro e wd ⟨q, rfl, hxq, g5, k5, hk5, hr5⟩
        refine ⟨_, rfl, (some q, none, none), Lib.hid (Wz.drawn hc.out (⟨k5, by simp [kO] at hka ⊢; omega, hd.draw g5 hr5⟩) (hR2) g5), ?_⟩
        clear g5 hr5 hk5 hd hka hc
        refine wpAnyH_two 7 11 (by kernel_rfl) ?_ ?_
        · refine hOp_call (i := 7) (d := some 28) 88 #[.agg #[.int .i64 g, (.slice ra n rc), (.slice ma m mc)], ev, fv, .int .i64 q] rfl rfl rfl (by kernel_rfl) (fun _ => by kernel_rfl) fun wa hc => ?_
          obtain ⟨ka, hka, hd⟩ := hc.out.base
          refine (sof_wf g _ _ ev fv q rows makes es fs wa (ST.out _ hd.ab).1 (ST.out _ hd.ab).2.1 (ST.out _ hd.ab).2.2).mono ?_
          rintro e wd ⟨sv, tv, rfl, o1, hb⟩
          obtain ⟨s9, n9, x1⟩ := Own.form o1.s
          obtain ⟨t9, m9, x2⟩ := Own.form o1.t
          subst x1 x2
          refine ⟨_, rfl, (some q, some (.slice s9 (wfS g rows makes es fs (some q)).length n9, .slice t9 (wfT g rows makes es fs (some q)).length m9), none), Lib.hid (Wz.call (fun _ _ h k => Bf.on h k) hc.out (fun N h => by cases h) hb o1), ?_⟩
          clear o1 hb hd hka hc
          refine takeH (i := 8) (d := some 20) (.tuple #[.agg #[.slice s9 (wfS g rows makes es fs (some q)).length n9, .int .i64 (wfQ g rows makes es fs (some q)), .slice t9 (wfT g rows makes es fs (some q)).length m9], .bool (ofB g rows makes es fs q)]) rfl (by kernel_rfl) rfl rfl (by kernel_rfl) (by kernel_rfl) (by kernel_rfl) (fun w => by simp [go_sem, Act.put]) ?_
          refine takeH (i := 9) (d := some 29) (.agg #[.slice s9 (wfS g rows makes es fs (some q)).length n9, .int .i64 (wfQ g rows makes es fs (some q)), .slice t9 (wfT g rows makes es fs (some q)).length m9]) rfl (by kernel_rfl) rfl rfl (by kernel_rfl) (by kernel_rfl) (by kernel_rfl) (fun w => by simp [go_sem, Act.put]) ?_
          refine takeH (i := 10) (d := some 30) (.bool (ofB g rows makes es fs q)) rfl (by kernel_rfl) rfl rfl (by kernel_rfl) (by kernel_rfl) (by kernel_rfl) (fun w => by simp [go_sem, Act.put]) ?_
          refine wpAnyH_special (i := 11) (d := some 8) rfl (by kernel_rfl) rfl rfl (by kernel_rfl) fun wp hp => ⟨.pointer (some ⟨wp.heap.size, 0, none⟩), wp.alloc (.cells #[.slice none 0 0, .int .i64 0, .slice none 0 0] 28), (some q, some (.slice s9 (wfS g rows makes es fs (some q)).length n9, .slice t9 (wfT g rows makes es fs (some q)).length m9), some (wp.heap.size, false)), .inl (by kernel_rfl), Lib.hid (Wz.make (fun _ _ h k => Bf.on h k) hp.out), ?_⟩
          clear hp
          refine wpAnyH_special (i := 12) (d := none) rfl (by kernel_rfl) rfl rfl (by kernel_rfl) fun we he => ?_
          have r0 := he.out.cells.cell 0; have r1 := he.out.cells.cell 1; have r2 := he.out.cells.cell 2
          have f0 := he.out.cells.frozen 0; have f1 := he.out.cells.frozen 1; have f2 := he.out.cells.frozen 2
          simp at r0 r1 r2
          refine ⟨undef, ((we.setCell ⟨wp.heap.size, 0, none⟩ (.slice s9 (wfS g rows makes es fs (some q)).length n9)).setCell ⟨wp.heap.size, 1, none⟩ (.int .i64 (wfQ g rows makes es fs (some q)))).setCell ⟨wp.heap.size, 2, none⟩ (.slice t9 (wfT g rows makes es fs (some q)).length m9), (some q, some (.slice s9 (wfS g rows makes es fs (some q)).length n9, .slice t9 (wfT g rows makes es fs (some q)).length m9), some (wp.heap.size, true)), .inr ⟨by simp [go_sem, Act.put, r0, r1, r2, f0, f1, f2], rfl⟩, Lib.hid (Wz.store (fun _ _ _ _ h k => Bf.put h k) he.out), ?_⟩
          clear he r0 r1 r2 f0 f1 f2
          refine wpAnyH_assign (i := 13) (d := some 9) (.tmp 30) rfl (by kernel_rfl) rfl rfl (by kernel_rfl) rfl ?_
          exact ⟨by kernel_rfl, ⟨(wp.heap.size, q, (s9, n9), (t9, m9)), rfl, by kernel_rfl⟩⟩
        · refine hOp_special (d := some 8) rfl rfl rfl (by kernel_rfl) fun wp hp => ⟨.pointer (some ⟨wp.heap.size, 0, none⟩), wp.alloc (.cells #[.slice none 0 0, .int .i64 0, .slice none 0 0] 28), (some q, none, some (wp.heap.size, false)), by kernel_rfl, Lib.hid (Wz.make (fun _ _ h k => Bf.on h k) hp.out), ?_⟩
          clear hp
          refine wpAnyH_call (i := 7) (d := some 28) 88 #[.agg #[.int .i64 g, (.slice ra n rc), (.slice ma m mc)], ev, fv, .int .i64 q] rfl (by kernel_rfl) rfl rfl (by kernel_rfl) (fun _ => by kernel_rfl) fun wa hc => ?_
          obtain ⟨ka, hka, hd⟩ := hc.out.base
          refine (sof_wf g _ _ ev fv q rows makes es fs wa (ST.out _ hd.ab).1 (ST.out _ hd.ab).2.1 (ST.out _ hd.ab).2.2).mono ?_
          rintro e wd ⟨sv, tv, rfl, o1, hb⟩
          obtain ⟨s9, n9, x1⟩ := Own.form o1.s
          obtain ⟨t9, m9, x2⟩ := Own.form o1.t
          subst x1 x2
          refine ⟨_, rfl, (some q, some (.slice s9 (wfS g rows makes es fs (some q)).length n9, .slice t9 (wfT g rows makes es fs (some q)).length m9), some (wp.heap.size, false)), Lib.hid (Wz.call (fun _ _ h k => Bf.on h k) hc.out (fun N h => by cases h) hb o1), ?_⟩
          clear o1 hb hd hka hc
          refine takeH (i := 8) (d := some 20) (.tuple #[.agg #[.slice s9 (wfS g rows makes es fs (some q)).length n9, .int .i64 (wfQ g rows makes es fs (some q)), .slice t9 (wfT g rows makes es fs (some q)).length m9], .bool (ofB g rows makes es fs q)]) rfl (by kernel_rfl) rfl rfl (by kernel_rfl) (by kernel_rfl) (by kernel_rfl) (fun w => by simp [go_sem, Act.put]) ?_
          refine takeH (i := 9) (d := some 29) (.agg #[.slice s9 (wfS g rows makes es fs (some q)).length n9, .int .i64 (wfQ g rows makes es fs (some q)), .slice t9 (wfT g rows makes es fs (some q)).length m9]) rfl (by kernel_rfl) rfl rfl (by kernel_rfl) (by kernel_rfl) (by kernel_rfl) (fun w => by simp [go_sem, Act.put]) ?_
          refine takeH (i := 10) (d := some 30) (.bool (ofB g rows makes es fs q)) rfl (by kernel_rfl) rfl rfl (by kernel_rfl) (by kernel_rfl) (by kernel_rfl) (fun w => by simp [go_sem, Act.put]) ?_
          refine wpAnyH_special (i := 12) (d := none) rfl (by kernel_rfl) rfl rfl (by kernel_rfl) fun we he => ?_
          have r0 := he.out.cells.cell 0; have r1 := he.out.cells.cell 1; have r2 := he.out.cells.cell 2
          have f0 := he.out.cells.frozen 0; have f1 := he.out.cells.frozen 1; have f2 := he.out.cells.frozen 2
          simp at r0 r1 r2
          refine ⟨undef, ((we.setCell ⟨wp.heap.size, 0, none⟩ (.slice s9 (wfS g rows makes es fs (some q)).length n9)).setCell ⟨wp.heap.size, 1, none⟩ (.int .i64 (wfQ g rows makes es fs (some q)))).setCell ⟨wp.heap.size, 2, none⟩ (.slice t9 (wfT g rows makes es fs (some q)).length m9), (some q, some (.slice s9 (wfS g rows makes es fs (some q)).length n9, .slice t9 (wfT g rows makes es fs (some q)).length m9), some (wp.heap.size, true)), .inr ⟨by simp [go_sem, Act.put, r0, r1, r2, f0, f1, f2], rfl⟩, Lib.hid (Wz.store (fun _ _ _ _ h k => Bf.put h k) he.out), ?_⟩
          clear he r0 r1 r2 f0 f1 f2
          refine wpAnyH_assign (i := 13) (d := some 9) (.tmp 30) rfl (by kernel_rfl) rfl rfl (by kernel_rfl) rfl ?_
          exact ⟨by kernel_rfl, ⟨(wp.heap.size, q, (s9, n9), (t9, m9)), rfl, by kernel_rfl⟩⟩
      · refine hOp_special (d := some 8) rfl rfl rfl (by kernel_rfl) fun wp hp => ⟨.pointer (some ⟨wp.heap.size, 0, none⟩), wp.alloc (.cells #[.slice none 0 0, .int .i64 0, .slice none 0 0] 28), (none, none, some (wp.heap.size, false)), by kernel_rfl, Lib.hid (Wz.make (fun _ _ h k => Bf.on h k) hp.out), ?_⟩
        clear hp
        refine wpAnyH_call (i := 6) (d := some 27) 89 #[.pointer (some ⟨R, 0, none⟩), .int .i64 g, .int .i64 0] rfl (by kernel_rfl) rfl rfl (by kernel_rfl) (fun _ => by kernel_rfl) fun wa hc => ?_
        obtain ⟨ka, hka, hd⟩ := hc.out.base
        refine (drawex0_any R ka g wa h0 h4 hd.rd (by simp [kO] at hka; omega)).mono ?_
        rintro e wd ⟨q, rfl, hxq, g5, k5, hk5, hr5⟩
        refine ⟨_, rfl, (some q, none, some (wp.heap.size, false)), Lib.hid (Wz.drawn hc.out (⟨k5, by simp [kO] at hka ⊢; omega, hd.draw g5 hr5⟩) (hR2) g5), ?_⟩
        clear g5 hr5 hk5 hd hka hc
        refine wpAnyH_call (i := 7) (d := some 28) 88 #[.agg #[.int .i64 g, (.slice ra n rc), (.slice ma m mc)], ev, fv, .int .i64 q] rfl (by kernel_rfl) rfl rfl (by kernel_rfl) (fun _ => by kernel_rfl) fun wa hc => ?_
        obtain ⟨ka, hka, hd⟩ := hc.out.base
        refine (sof_wf g _ _ ev fv q rows makes es fs wa (ST.out _ hd.ab).1 (ST.out _ hd.ab).2.1 (ST.out _ hd.ab).2.2).mono ?_
        rintro e wd ⟨sv, tv, rfl, o1, hb⟩
        obtain ⟨s9, n9, x1⟩ := Own.form o1.s
        obtain ⟨t9, m9, x2⟩ := Own.form o1.t
        subst x1 x2
        refine ⟨_, rfl, (some q, some (.slice s9 (wfS g rows makes es fs (some q)).length n9, .slice t9 (wfT g rows makes es fs (some q)).length m9), some (wp.heap.size, false)), Lib.hid (Wz.call (fun _ _ h k => Bf.on h k) hc.out (fun N h => by cases h) hb o1), ?_⟩
        clear o1 hb hd hka hc
        refine takeH (i := 8) (d := some 20) (.tuple #[.agg #[.slice s9 (wfS g rows makes es fs (some q)).length n9, .int .i64 (wfQ g rows makes es fs (some q)), .slice t9 (wfT g rows makes es fs (some q)).length m9], .bool (ofB g rows makes es fs q)]) rfl (by kernel_rfl) rfl rfl (by kernel_rfl) (by kernel_rfl) (by kernel_rfl) (fun w => by simp [go_sem, Act.put]) ?_
        refine takeH (i := 9) (d := some 29) (.agg #[.slice s9 (wfS g rows makes es fs (some q)).length n9, .int .i64 (wfQ g rows makes es fs (some q)), .slice t9 (wfT g rows makes es fs (some q)).length m9]) rfl (by kernel_rfl) rfl rfl (by kernel_rfl) (by kernel_rfl) (by kernel_rfl) (fun w => by simp [go_sem, Act.put]) ?_
        refine takeH (i := 10) (d := some 30) (.bool (ofB g rows makes es fs q)) rfl (by kernel_rfl) rfl rfl (by kernel_rfl) (by kernel_rfl) (by kernel_rfl) (fun w => by simp [go_sem, Act.put]) ?_
        refine wpAnyH_special (i := 12) (d := none) rfl (by kernel_rfl) rfl rfl (by kernel_rfl) fun we he => ?_
        have r0 := he.out.cells.cell 0; have r1 := he.out.cells.cell 1; have r2 := he.out.cells.cell 2
        have f0 := he.out.cells.frozen 0; have f1 := he.out.cells.frozen 1; have f2 := he.out.cells.frozen 2
        simp at r0 r1 r2
        refine ⟨undef, ((we.setCell ⟨wp.heap.size, 0, none⟩ (.slice s9 (wfS g rows makes es fs (some q)).length n9)).setCell ⟨wp.heap.size, 1, none⟩ (.int .i64 (wfQ g rows makes es fs (some q)))).setCell ⟨wp.heap.size, 2, none⟩ (.slice t9 (wfT g rows makes es fs (some q)).length m9), (some q, some (.slice s9 (wfS g rows makes es fs (some q)).length n9, .slice t9 (wfT g rows makes es fs (some q)).length m9), some (wp.heap.size, true)), .inr ⟨by simp [go_sem, Act.put, r0, r1, r2, f0, f1, f2], rfl⟩, Lib.hid (Wz.store (fun _ _ _ _ h k => Bf.put h k) he.out), ?_⟩
        clear he r0 r1 r2 f0 f1 f2
        refine wpAnyH_assign (i := 13) (d := some 9) (.tmp 30) rfl (by kernel_rfl) rfl rfl (by kernel_rfl) rfl ?_
        exact ⟨by kernel_rfl, ⟨(wp.heap.size, q, (s9, n9), (t9, m9)), rfl, by kernel_rfl⟩⟩
    · rintro ⟨Na, qa, ⟨sa, na⟩, ta, ma9⟩ w3 hz
      simp only [Act.put, List.setIfInBounds_toArray, List.set_cons_zero, List.set_cons_succ]
      obtain ⟨⟨k3, hk3, f3⟩, a9⟩ : (∃ k', k' ≤ k2 + 10 ∧ Fw w R (w.heap.size + 3) w2 BX w3 k') ∧ Wt w2.heap.size (wfQ g rows makes es fs (some qa)) (wfS g rows makes es fs (some qa)) (wfT g rows makes es fs (some qa)) (.slice sa (wfS g rows makes es fs (some qa)).length na) (.slice ta (wfT g rows makes es fs (some qa)).length ma9) Na w3 := ⟨hz.out.base, Wz.other hz.out trivial⟩
      clear hz F2
      have haS := wfS_len (g := g) makes es fs qa (show rows.length ≤ 3 by rw [HN.out]; exact l1)
      have haT := wfT_len g rows makes fs qa hl4.out
      obtain ⟨QA, hQA⟩ : ∃ x, wfQ g rows makes es fs (some qa) = x := ⟨_, rfl⟩
      obtain ⟨SA, hSA⟩ : ∃ x, wfS g rows makes es fs (some qa) = x := ⟨_, rfl⟩
      obtain ⟨TA, hTA⟩ : ∃ x, wfT g rows makes es fs (some qa) = x := ⟨_, rfl⟩
      rw [hQA, hSA, hTA] at a9
      rw [hSA] at haS
      rw [hTA] at haT
      rw [hQA, hSA, hTA]
      clear hQA hSA hTA
      have hNA := Lib.hid a9.box.lt
      have hAO := Lib.hid (show ∀ k, (Value.slice sa SA.length na).ownBlock = some k ∨ (Value.slice ta TA.length ma9).ownBlock = some k → k < w3.heap.size from fun k hk => by exact hk.elim (fun h => (a9.s.lt k h).2) (fun h => (a9.t.lt k h).2))
      have hl3 := f3.ab.1
      have hR3 : R < w3.heap.size := by omega
      have F3 := Lib.hid f3
      have A3 := Lib.hid a9
      clear f3 a9
      obtain ⟨la, hla⟩ : ∃ la, SA.length = la := ⟨_, rfl⟩
      obtain ⟨lt, hlt⟩ : ∃ lt, TA.length = lt := ⟨_, rfl⟩
      rw [hla, hlt] at A3 hAO ⊢
      rw [hla] at haS
      rw [hlt] at haT
      have HLA := Lib.hid hla
      have HLT := Lib.hid hlt
      clear hla hlt
      go_wp2_with fail
      apply wp_region_H (Z := Option Int × Option (Value × Value) × Option (Nat × Bool)) (S := fun k => k == 6 || k == 7 || k == 11 || k == 12) (C := fun z w' => Hid (Wz (Wb w R (w.heap.size + 3) w2 BX QA SA TA (.slice sa la na) (.slice ta lt ma9) Na (kO (k2 + 10) z.1)) w3.heap.size (wfQ g rows makes es fs z.1) (wfS g rows makes es fs z.1) (wfT g rows makes es fs z.1) z.2.1 z.2.2 w')) [0, 1, 2, 3, 4, 5] (none, none, none)
      · kernel_rfl
      · kernel_rfl
      · kernel_rfl
      · exact ⟨rfl, rfl, rfl, rfl, rfl, rfl, trivial⟩
      · kernel_rfl
      · decide
      · exact Lib.hid (Wz.start (⟨⟨k3, hk3, F3.out.on (Below.refl _ _).drew⟩, A3.out.on (Below.refl _ _).drew⟩) (Nat.le_refl _))
      · intro z
        dsimp only [pickL, nthO]
        repeat (first | go_big_quiet_skip | (go_big_quiet_want; go_big_quiet_op; first | go_big_quiet_on | (refine ⟨_, fun _ _ => rfl, ?_⟩; go_big_quiet_on)))
        go_big_quiet_want
        go_big_quiet_op
        refine ⟨.agg #[.int .i64 g, (.slice ra n rc), (.slice ma m mc)], fun w' hw' => ?_, ?_⟩
        · obtain ⟨kq, _, fq⟩ := (hw'.out.base).1
          have q0 := (fq.box BC.out).cell 0; have q1 := (fq.box BC.out).cell 1; have q2 := (fq.box BC.out).cell 2
          simp at q0 q1 q2
          simp [go_sem, q0, q1, q2]
        go_big_quiet_on
        repeat (first | go_big_quiet_skip | (go_big_quiet_want; go_big_quiet_op; first | go_big_quiet_on | (refine ⟨_, fun _ _ => rfl, ?_⟩; go_big_quiet_on)))
        repeat (first | go_big_quiet_skip | (go_big_quiet_want; go_big_quiet_op; first | go_big_quiet_on | (refine ⟨_, fun _ _ => rfl, ?_⟩; go_big_quiet_on)))
        repeat (first | go_big_quiet_skip | (go_big_quiet_want; go_big_quiet_op; first | go_big_quiet_on | (refine ⟨_, fun _ _ => rfl, ?_⟩; go_big_quiet_on)))
        repeat (first | go_big_quiet_skip | (go_big_quiet_want; go_big_quiet_op; first | go_big_quiet_on | (refine ⟨_, fun _ _ => rfl, ?_⟩; go_big_quiet_on)))
        go_big_quiet_want
        go_big_quiet_op
        refine ⟨.int .i64 g, fun w' hw' => ?_, ?_⟩
        · obtain ⟨kq, _, fq⟩ := (hw'.out.base).1
          have q0 := (fq.box BC.out).cell 0
          simp at q0
          simp [go_sem, q0]
        go_big_quiet_on
        repeat (first | go_big_quiet_skip | (go_big_quiet_want; go_big_quiet_op; first | go_big_quiet_on | (refine ⟨_, fun _ _ => rfl, ?_⟩; go_big_quiet_on)))
        exact wpQuiet_nil rfl
      · refine wpAnyH_key (D := Nat × Int × (Option Addr × Nat) × (Option Addr × Nat))
          (fun d => (some d.2.1, some (.slice d.2.2.1.1 (wfS g rows makes es fs (some d.2.1)).length d.2.2.1.2, .slice d.2.2.2.1 (wfT g rows makes es fs (some d.2.1)).length d.2.2.2.2), some (d.1, true)))
          (fun d a => (((((((a.put (some 38) (.int .i64 d.2.1)).put (some 39) (.tuple #[.agg #[.slice d.2.2.1.1 (wfS g rows makes es fs (some d.2.1)).length d.2.2.1.2, .int .i64 (wfQ g rows makes es fs (some d.2.1)), .slice d.2.2.2.1 (wfT g rows makes es fs (some d.2.1)).length d.2.2.2.2], .bool (ofB g rows makes es fs d.2.1)])).put (some 31) (.tuple #[.agg #[.slice d.2.2.1.1 (wfS g rows makes es fs (some d.2.1)).length d.2.2.1.2, .int .i64 (wfQ g rows makes es fs (some d.2.1)), .slice d.2.2.2.1 (wfT g rows makes es fs (some d.2.1)).length d.2.2.2.2], .bool (ofB g rows makes es fs d.2.1)])).put (some 40) (.agg #[.slice d.2.2.1.1 (wfS g rows makes es fs (some d.2.1)).length d.2.2.1.2, .int .i64 (wfQ g rows makes es fs (some d.2.1)), .slice d.2.2.2.1 (wfT g rows makes es fs (some d.2.1)).length d.2.2.2.2])).put (some 41) (.bool (ofB g rows makes es fs d.2.1))).put (some 10) (.pointer (some ⟨d.1, 0, none⟩))).put (some 11) (.bool (ofB g rows makes es fs d.2.1)))) ?_ ?_
        · refine wpAnyH_two 6 11 (by kernel_rfl) ?_ ?_
          · refine hOp_call (i := 6) (d := some 38) 89 #[.pointer (some ⟨R, 0, none⟩), .int .i64 g, .int .i64 0] rfl rfl rfl (by kernel_rfl) (fun _ => by kernel_rfl) fun wa hc => ?_
            obtain ⟨ka, hka, hd⟩ := (hc.out.base).1
            refine (drawex0_any R ka g wa h0 h4 hd.rd (by simp [kO] at hka; omega)).mono ?_
            rintro e wd ⟨q, rfl, hxq, g5, k5, hk5, hr5⟩
            refine ⟨_, rfl, (some q, none, none), Lib.hid (Wz.drawn hc.out (⟨⟨k5, by simp [kO] at hka ⊢; omega, hd.draw g5 hr5⟩, hc.out.base.2.draw g5 hR2⟩) (hR3) g5), ?_⟩
            clear g5 hr5 hk5 hd hka hc
            refine wpAnyH_two 7 11 (by kernel_rfl) ?_ ?_
            · refine hOp_call (i := 7) (d := some 39) 88 #[.agg #[.int .i64 g, (.slice ra n rc), (.slice ma m mc)], ev, fv, .int .i64 q] rfl rfl rfl (by kernel_rfl) (fun _ => by kernel_rfl) fun wa hc => ?_
              obtain ⟨ka, hka, hd⟩ := (hc.out.base).1
              refine (sof_wf g _ _ ev fv q rows makes es fs wa (ST.out _ hd.ab).1 (ST.out _ hd.ab).2.1 (ST.out _ hd.ab).2.2).mono ?_
              rintro e wd ⟨sv, tv, rfl, o1, hb⟩
              obtain ⟨s9, n9, x1⟩ := Own.form o1.s
              obtain ⟨t9, m9, x2⟩ := Own.form o1.t
              subst x1 x2
              refine ⟨_, rfl, (some q, some (.slice s9 (wfS g rows makes es fs (some q)).length n9, .slice t9 (wfT g rows makes es fs (some q)).length m9), none), Lib.hid (Wz.call (fun _ _ h k => Wb.on h k) hc.out (fun N h => by cases h) hb o1), ?_⟩
              clear o1 hb hd hka hc
              refine takeH (i := 8) (d := some 31) (.tuple #[.agg #[.slice s9 (wfS g rows makes es fs (some q)).length n9, .int .i64 (wfQ g rows makes es fs (some q)), .slice t9 (wfT g rows makes es fs (some q)).length m9], .bool (ofB g rows makes es fs q)]) rfl (by kernel_rfl) rfl rfl (by kernel_rfl) (by kernel_rfl) (by kernel_rfl) (fun w => by simp [go_sem, Act.put]) ?_
              refine takeH (i := 9) (d := some 40) (.agg #[.slice s9 (wfS g rows makes es fs (some q)).length n9, .int .i64 (wfQ g rows makes es fs (some q)), .slice t9 (wfT g rows makes es fs (some q)).length m9]) rfl (by kernel_rfl) rfl rfl (by kernel_rfl) (by kernel_rfl) (by kernel_rfl) (fun w => by simp [go_sem, Act.put]) ?_
              refine takeH (i := 10) (d := some 41) (.bool (ofB g rows makes es fs q)) rfl (by kernel_rfl) rfl rfl (by kernel_rfl) (by kernel_rfl) (by kernel_rfl) (fun w => by simp [go_sem, Act.put]) ?_
              refine wpAnyH_special (i := 11) (d := some 10) rfl (by kernel_rfl) rfl rfl (by kernel_rfl) fun wp hp => ⟨.pointer (some ⟨wp.heap.size, 0, none⟩), wp.alloc (.cells #[.slice none 0 0, .int .i64 0, .slice none 0 0] 28), (some q, some (.slice s9 (wfS g rows makes es fs (some q)).length n9, .slice t9 (wfT g rows makes es fs (some q)).length m9), some (wp.heap.size, false)), .inl (by kernel_rfl), Lib.hid (Wz.make (fun _ _ h k => Wb.on h k) hp.out), ?_⟩
              clear hp
              refine wpAnyH_special (i := 12) (d := none) rfl (by kernel_rfl) rfl rfl (by kernel_rfl) fun we he => ?_
              have r0 := he.out.cells.cell 0; have r1 := he.out.cells.cell 1; have r2 := he.out.cells.cell 2
              have f0 := he.out.cells.frozen 0; have f1 := he.out.cells.frozen 1; have f2 := he.out.cells.frozen 2
              simp at r0 r1 r2
              refine ⟨undef, ((we.setCell ⟨wp.heap.size, 0, none⟩ (.slice s9 (wfS g rows makes es fs (some q)).length n9)).setCell ⟨wp.heap.size, 1, none⟩ (.int .i64 (wfQ g rows makes es fs (some q)))).setCell ⟨wp.heap.size, 2, none⟩ (.slice t9 (wfT g rows makes es fs (some q)).length m9), (some q, some (.slice s9 (wfS g rows makes es fs (some q)).length n9, .slice t9 (wfT g rows makes es fs (some q)).length m9), some (wp.heap.size, true)), .inr ⟨by simp [go_sem, Act.put, r0, r1, r2, f0, f1, f2], rfl⟩, Lib.hid (Wz.store (fun _ _ _ _ h k => Wb.put h hl3 hAO.out hNA.out k) he.out), ?_⟩
              clear he r0 r1 r2 f0 f1 f2
              refine wpAnyH_assign (i := 13) (d := some 11) (.tmp 41) rfl (by kernel_rfl) rfl rfl (by kernel_rfl) rfl ?_
              exact ⟨by kernel_rfl, ⟨(wp.heap.size, q, (s9, n9), (t9, m9)), rfl, by kernel_rfl⟩⟩
            · refine hOp_special (d := some 10) rfl rfl rfl (by kernel_rfl) fun wp hp => ⟨.pointer (some ⟨wp.heap.size, 0, none⟩), wp.alloc (.cells #[.slice none 0 0, .int .i64 0, .slice none 0 0] 28), (some q, none, some (wp.heap.size, false)), by kernel_rfl, Lib.hid (Wz.make (fun _ _ h k => Wb.on h k) hp.out), ?_⟩
              clear hp
              refine wpAnyH_call (i := 7) (d := some 39) 88 #[.agg #[.int .i64 g, (.slice ra n rc), (.slice ma m mc)], ev, fv, .int .i64 q] rfl (by kernel_rfl) rfl rfl (by kernel_rfl) (fun _ => by kernel_rfl) fun wa hc => ?_
              obtain ⟨ka, hka, hd⟩ := (hc.out.base).1
              refine (sof_wf g _ _ ev fv q rows makes es fs wa (ST.out _ hd.ab).1 (ST.out _ hd.ab).2.1 (ST.out _ hd.ab).2.2).mono ?_
              rintro e wd ⟨sv, tv, rfl, o1, hb⟩
              obtain ⟨s9, n9, x1⟩ := Own.form o1.s
              obtain ⟨t9, m9, x2⟩ := Own.form o1.t
              subst x1 x2
              refine ⟨_, rfl, (some q, some (.slice s9 (wfS g rows makes es fs (some q)).length n9, .slice t9 (wfT g rows makes es fs (some q)).length m9), some (wp.heap.size, false)), Lib.hid (Wz.call (fun _ _ h k => Wb.on h k) hc.out (fun N h => by cases h) hb o1), ?_⟩
              clear o1 hb hd hka hc
              refine takeH (i := 8) (d := some 31) (.tuple #[.agg #[.slice s9 (wfS g rows makes es fs (some q)).length n9, .int .i64 (wfQ g rows makes es fs (some q)), .slice t9 (wfT g rows makes es fs (some q)).length m9], .bool (ofB g rows makes es fs q)]) rfl (by kernel_rfl) rfl rfl (by kernel_rfl) (by kernel_rfl) (by kernel_rfl) (fun w => by simp [go_sem, Act.put]) ?_
              refine takeH (i := 9) (d := some 40) (.agg #[.slice s9 (wfS g rows makes es fs (some q)).length n9, .int .i64 (wfQ g rows makes es fs (some q)), .slice t9 (wfT g rows makes es fs (some q)).length m9]) rfl (by kernel_rfl) rfl rfl (by kernel_rfl) (by kernel_rfl) (by kernel_rfl) (fun w => by simp [go_sem, Act.put]) ?_
              refine takeH (i := 10) (d := some 41) (.bool (ofB g rows makes es fs q)) rfl (by kernel_rfl) rfl rfl (by kernel_rfl) (by kernel_rfl) (by kernel_rfl) (fun w => by simp [go_sem, Act.put]) ?_
              refine wpAnyH_special (i := 12) (d := none) rfl (by kernel_rfl) rfl rfl (by kernel_rfl) fun we he => ?_
              have r0 := he.out.cells.cell 0; have r1 := he.out.cells.cell 1; have r2 := he.out.cells.cell 2
              have f0 := he.out.cells.frozen 0; have f1 := he.out.cells.frozen 1; have f2 := he.out.cells.frozen 2
              simp at r0 r1 r2
              refine ⟨undef, ((we.setCell ⟨wp.heap.size, 0, none⟩ (.slice s9 (wfS g rows makes es fs (some q)).length n9)).setCell ⟨wp.heap.size, 1, none⟩ (.int .i64 (wfQ g rows makes es fs (some q)))).setCell ⟨wp.heap.size, 2, none⟩ (.slice t9 (wfT g rows makes es fs (some q)).length m9), (some q, some (.slice s9 (wfS g rows makes es fs (some q)).length n9, .slice t9 (wfT g rows makes es fs (some q)).length m9), some (wp.heap.size, true)), .inr ⟨by simp [go_sem, Act.put, r0, r1, r2, f0, f1, f2], rfl⟩, Lib.hid (Wz.store (fun _ _ _ _ h k => Wb.put h hl3 hAO.out hNA.out k) he.out), ?_⟩
              clear he r0 r1 r2 f0 f1 f2
              refine wpAnyH_assign (i := 13) (d := some 11) (.tmp 41) rfl (by kernel_rfl) rfl rfl (by kernel_rfl) rfl ?_
              exact ⟨by kernel_rfl, ⟨(wp.heap.size, q, (s9, n9), (t9, m9)), rfl, by kernel_rfl⟩⟩
          · refine hOp_special (d := some 10) rfl rfl rfl (by kernel_rfl) fun wp hp => ⟨.pointer (some ⟨wp.heap.size, 0, none⟩), wp.alloc (.cells #[.slice none 0 0, .int .i64 0, .slice none 0 0] 28), (none, none, some (wp.heap.size, false)), by kernel_rfl, Lib.hid (Wz.make (fun _ _ h k => Wb.on h k) hp.out), ?_⟩
            clear hp
            refine wpAnyH_call (i := 6) (d := some 38) 89 #[.pointer (some ⟨R, 0, none⟩), .int .i64 g, .int .i64 0] rfl (by kernel_rfl) rfl rfl (by kernel_rfl) (fun _ => by kernel_rfl) fun wa hc => ?_
            obtain ⟨ka, hka, hd⟩ := (hc.out.base).1
            refine (drawex0_any R ka g wa h0 h4 hd.rd (by simp [kO] at hka; omega)).mono ?_
            rintro e wd ⟨q, rfl, hxq, g5, k5, hk5, hr5⟩
            refine ⟨_, rfl, (some q, none, some (wp.heap.size, false)), Lib.hid (Wz.drawn hc.out (⟨⟨k5, by simp [kO] at hka ⊢; omega, hd.draw g5 hr5⟩, hc.out.base.2.draw g5 hR2⟩) (hR3) g5), ?_⟩
            clear g5 hr5 hk5 hd hka hc
            refine wpAnyH_call (i := 7) (d := some 39) 88 #[.agg #[.int .i64 g, (.slice ra n rc), (.slice ma m mc)], ev, fv, .int .i64 q] rfl (by kernel_rfl) rfl rfl (by kernel_rfl) (fun _ => by kernel_rfl) fun wa hc => ?_
            obtain ⟨ka, hka, hd⟩ := (hc.out.base).1
            refine (sof_wf g _ _ ev fv q rows makes es fs wa (ST.out _ hd.ab).1 (ST.out _ hd.ab).2.1 (ST.out _ hd.ab).2.2).mono ?_
            rintro e wd ⟨sv, tv, rfl, o1, hb⟩
            obtain ⟨s9, n9, x1⟩ := Own.form o1.s
            obtain ⟨t9, m9, x2⟩ := Own.form o1.t
            subst x1 x2
            refine ⟨_, rfl, (some q, some (.slice s9 (wfS g rows makes es fs (some q)).length n9, .slice t9 (wfT g rows makes es fs (some q)).length m9), some (wp.heap.size, false)), Lib.hid (Wz.call (fun _ _ h k => Wb.on h k) hc.out (fun N h => by cases h) hb o1), ?_⟩
            clear o1 hb hd hka hc
            refine takeH (i := 8) (d := some 31) (.tuple #[.agg #[.slice s9 (wfS g rows makes es fs (some q)).length n9, .int .i64 (wfQ g rows makes es fs (some q)), .slice t9 (wfT g rows makes es fs (some q)).length m9], .bool (ofB g rows makes es fs q)]) rfl (by kernel_rfl) rfl rfl (by kernel_rfl) (by kernel_rfl) (by kernel_rfl) (fun w => by simp [go_sem, Act.put]) ?_
            refine takeH (i := 9) (d := some 40) (.agg #[.slice s9 (wfS g rows makes es fs (some q)).length n9, .int .i64 (wfQ g rows makes es fs (some q)), .slice t9 (wfT g rows makes es fs (some q)).length m9]) rfl (by kernel_rfl) rfl rfl (by kernel_rfl) (by kernel_rfl) (by kernel_rfl) (fun w => by simp [go_sem, Act.put]) ?_
            refine takeH (i := 10) (d := some 41) (.bool (ofB g rows makes es fs q)) rfl (by kernel_rfl) rfl rfl (by kernel_rfl) (by kernel_rfl) (by kernel_rfl) (fun w => by simp [go_sem, Act.put]) ?_
            refine wpAnyH_special (i := 12) (d := none) rfl (by kernel_rfl) rfl rfl (by kernel_rfl) fun we he => ?_
            have r0 := he.out.cells.cell 0; have r1 := he.out.cells.cell 1; have r2 := he.out.cells.cell 2
            have f0 := he.out.cells.frozen 0; have f1 := he.out.cells.frozen 1; have f2 := he.out.cells.frozen 2
            simp at r0 r1 r2
            refine ⟨undef, ((we.setCell ⟨wp.heap.size, 0, none⟩ (.slice s9 (wfS g rows makes es fs (some q)).length n9)).setCell ⟨wp.heap.size, 1, none⟩ (.int .i64 (wfQ g rows makes es fs (some q)))).setCell ⟨wp.heap.size, 2, none⟩ (.slice t9 (wfT g rows makes es fs (some q)).length m9), (some q, some (.slice s9 (wfS g rows makes es fs (some q)).length n9, .slice t9 (wfT g rows makes es fs (some q)).length m9), some (wp.heap.size, true)), .inr ⟨by simp [go_sem, Act.put, r0, r1, r2, f0, f1, f2], rfl⟩, Lib.hid (Wz.store (fun _ _ _ _ h k => Wb.put h hl3 hAO.out hNA.out k) he.out), ?_⟩
            clear he r0 r1 r2 f0 f1 f2
            refine wpAnyH_assign (i := 13) (d := some 11) (.tmp 41) rfl (by kernel_rfl) rfl rfl (by kernel_rfl) rfl ?_
            exact ⟨by kernel_rfl, ⟨(wp.heap.size, q, (s9, n9), (t9, m9)), rfl, by kernel_rfl⟩⟩
        · rintro ⟨Nb, qb, ⟨sb, nb⟩, tb, mb9⟩ w4 hz
          simp only [Act.put, List.setIfInBounds_toArray, List.set_cons_zero, List.set_cons_succ]
          obtain ⟨⟨⟨k4, hk4, f4⟩, a4⟩, b9⟩ : Wb w R (w.heap.size + 3) w2 BX QA SA TA (.slice sa la na) (.slice ta lt ma9) Na (k2 + 10 + 10) w4 ∧ Wt w3.heap.size (wfQ g rows makes es fs (some qb)) (wfS g rows makes es fs (some qb)) (wfT g rows makes es fs (some qb)) (.slice sb (wfS g rows makes es fs (some qb)).length nb) (.slice tb (wfT g rows makes es fs (some qb)).length mb9) Nb w4 := ⟨hz.out.base, Wz.other hz.out trivial⟩
          clear hz F3 A3
          have hbS := wfS_len (g := g) makes es fs qb (show rows.length ≤ 3 by rw [HN.out]; exact l1)
          have hbT := wfT_len g rows makes fs qb hl4.out
          obtain ⟨QB, hQB⟩ : ∃ x, wfQ g rows makes es fs (some qb) = x := ⟨_, rfl⟩
          obtain ⟨SB, hSB⟩ : ∃ x, wfS g rows makes es fs (some qb) = x := ⟨_, rfl⟩
          obtain ⟨TB, hTB⟩ : ∃ x, wfT g rows makes es fs (some qb) = x := ⟨_, rfl⟩
          rw [hQB, hSB, hTB] at b9
          rw [hSB] at hbS
          rw [hTB] at hbT
          rw [hQB, hSB, hTB]
          clear hQB hSB hTB
          obtain ⟨lb, hlb⟩ : ∃ lb, SB.length = lb := ⟨_, rfl⟩
          obtain ⟨lu, hlu⟩ : ∃ lu, TB.length = lu := ⟨_, rfl⟩
          rw [hlb, hlu] at b9 ⊢
          rw [hlb] at hbS
          rw [hlu] at hbT
          have HLB := Lib.hid hlb
          have HLU := Lib.hid hlu
          have F4 := Lib.hid f4
          have A4 := Lib.hid a4
          have B4 := Lib.hid b9
          clear f4 a4 b9 hlb hlu
          go_wp2_with fail
          refine (odd_any R k4 6 w4 F4.out.rd (by omega) (by omega) (by omega)).mono ?_
          rintro e w5 ⟨b5, rfl, mm, hw⟩
          have hgp := grown_pick w4 R k4 mm
          rw [← hw] at hgp
          have F5 : Hid (Fw w R (w.heap.size + 3) w2 BX w5 (k4 + 1)) := Lib.hid (F4.out.draw hgp (by rw [hw]; exact F4.out.rd.next mm))
          have A5 := Lib.hid (A4.out.draw hgp hR2)
          have B5 := Lib.hid (B4.out.draw hgp hR3)
          clear hw hgp F4 A4 B4
          cases b5
          · go_wp2_with fail
            refine (odd_any R (k4 + 1) 12 w5 F5.out.rd (by omega) (by omega) (by omega)).mono ?_
            rintro e w6 ⟨b6, rfl, mm, hw⟩
            have hgp := grown_pick w5 R (k4 + 1) mm
            rw [← hw] at hgp
            have F6 : Hid (Fw w R (w.heap.size + 3) w2 BX w6 ((k4 + 1) + 1)) := Lib.hid (F5.out.draw hgp (by rw [hw]; exact F5.out.rd.next mm))
            have A6 := Lib.hid (A5.out.draw hgp hR2)
            have B6 := Lib.hid (B5.out.draw hgp hR3)
            clear hw hgp F5 A5 B5
            cases b6
            · have D9 : Hid (Q9 w R w2 w1.heap.size [.int .i64 g, (.slice ra n rc), (.slice ma m mc)] [(.slice sa la na), .int .i64 QA, (.slice ta lt ma9)] [(.slice sb lb nb), .int .i64 QB, (.slice tb lu mb9)] QA SA TA (.slice sa la na) (.slice ta lt ma9) Na w3.heap.size QB SB TB (.slice sb lb nb) (.slice tb lu mb9) Nb 0 w6.drew) := Lib.hid (Q9.on ⟨F6.out.gr, F6.out.ab, A6.out, B6.out, F6.out.box BC.out, F6.out.box BZ0.out, F6.out.box BZ1.out, F6.out.box BZ2.out, by omega, hl3, by omega⟩ (Below.refl _ _).drew)
              clear F6 A6 B6
              go_wp2_with fail
              apply wp_region_H (Z := Nat) (S := fun k => k == 3 || k == 4 || k == 5) (C := fun j w' => Hid (Q9 w R w2 w1.heap.size [.int .i64 g, (.slice ra n rc), (.slice ma m mc)] [(.slice sa la na), .int .i64 QA, (.slice ta lt ma9)] [(.slice sb lb nb), .int .i64 QB, (.slice tb lu mb9)] QA SA TA (.slice sa la na) (.slice ta lt ma9) Na w3.heap.size QB SB TB (.slice sb lb nb) (.slice tb lu mb9) Nb j w')) [0, 1, 2] 0
              · kernel_rfl
              · kernel_rfl
              · kernel_rfl
              · exact ⟨rfl, rfl, rfl, trivial⟩
              · rfl
              · decide
              · exact D9
              · intro z
                dsimp only [pickL, nthO]
                repeat (first | go_big_quiet_skip | (go_big_quiet_want; go_big_quiet_op; first | go_big_quiet_on | (refine ⟨_, fun _ _ => rfl, ?_⟩; go_big_quiet_on)))
                go_big_quiet_want
                go_big_quiet_op
                refine ⟨.agg #[.int .i64 g, (.slice ra n rc), (.slice ma m mc)], fun w' hw' => ?_, ?_⟩
                · have q0 := hw'.out.c.cell 0; have q1 := hw'.out.c.cell 1; have q2 := hw'.out.c.cell 2
                  simp at q0 q1 q2
                  simp [go_sem, q0, q1, q2]
                go_big_quiet_on
                repeat (first | go_big_quiet_skip | (go_big_quiet_want; go_big_quiet_op; first | go_big_quiet_on | (refine ⟨_, fun _ _ => rfl, ?_⟩; go_big_quiet_on)))
                go_big_quiet_want
                go_big_quiet_op
                refine ⟨.agg #[(.slice sa la na), .int .i64 QA, (.slice ta lt ma9)], fun w' hw' => ?_, ?_⟩
                · have q0 := hw'.out.a.box.cell 0; have q1 := hw'.out.a.box.cell 1; have q2 := hw'.out.a.box.cell 2
                  simp at q0 q1 q2
                  simp [go_sem, q0, q1, q2]
                go_big_quiet_on
                repeat (first | go_big_quiet_skip | (go_big_quiet_want; go_big_quiet_op; first | go_big_quiet_on | (refine ⟨_, fun _ _ => rfl, ?_⟩; go_big_quiet_on)))
                go_big_quiet_want
                go_big_quiet_op
                refine ⟨.agg #[(.slice sb lb nb), .int .i64 QB, (.slice tb lu mb9)], fun w' hw' => ?_, ?_⟩
                · have q0 := hw'.out.b.box.cell 0; have q1 := hw'.out.b.box.cell 1; have q2 := hw'.out.b.box.cell 2
                  simp at q0 q1 q2
                  simp [go_sem, q0, q1, q2]
                go_big_quiet_on
                repeat (first | go_big_quiet_skip | (go_big_quiet_want; go_big_quiet_op; first | go_big_quiet_on | (refine ⟨_, fun _ _ => rfl, ?_⟩; go_big_quiet_on)))
                exact wpQuiet_nil rfl
              · skip
                refine wpAnyH_special (i := 3) (d := none) rfl (by kernel_rfl) rfl rfl (by kernel_rfl) fun we he => ?_
                have r0 := he.out.z2.cell 0; have r1 := he.out.z2.cell 1; have r2 := he.out.z2.cell 2; have f0 := he.out.z2.frozen 0; have f1 := he.out.z2.frozen 1; have f2 := he.out.z2.frozen 2
                simp at r0 r1 r2
                refine ⟨undef, pt3 we w.heap.size (.int .i64 g) (.slice ra n rc) (.slice ma m mc), 1, .inr ⟨by simp [go_sem, pt3, r0, r1, r2, f0, f1, f2], rfl⟩, Lib.hid he.out.put2, ?_⟩
                clear he r0 r1 r2 f0 f1 f2
                refine wpAnyH_special (i := 4) (d := none) rfl (by kernel_rfl) rfl rfl (by kernel_rfl) fun we he => ?_
                have r0 := he.out.z3.cell 0; have r1 := he.out.z3.cell 1; have r2 := he.out.z3.cell 2; have f0 := he.out.z3.frozen 0; have f1 := he.out.z3.frozen 1; have f2 := he.out.z3.frozen 2
                simp at r0 r1 r2
                refine ⟨undef, pt3 we (w.heap.size + 1) (.slice sa la na) (.int .i64 QA) (.slice ta lt ma9), 2, .inr ⟨by simp [go_sem, pt3, r0, r1, r2, f0, f1, f2], rfl⟩, Lib.hid he.out.put3, ?_⟩
                clear he r0 r1 r2 f0 f1 f2
                refine wpAnyH_special (i := 5) (d := none) rfl (by kernel_rfl) rfl rfl (by kernel_rfl) fun we he => ?_
                have r0 := he.out.z4.cell 0; have r1 := he.out.z4.cell 1; have r2 := he.out.z4.cell 2; have f0 := he.out.z4.frozen 0; have f1 := he.out.z4.frozen 1; have f2 := he.out.z4.frozen 2
                simp at r0 r1 r2
                refine ⟨undef, pt3 we (w.heap.size + 2) (.slice sb lb nb) (.int .i64 QB) (.slice tb lu mb9), 3, .inr ⟨by simp [go_sem, pt3, r0, r1, r2, f0, f1, f2], rfl⟩, Lib.hid he.out.put4, ?_⟩
                clear he r0 r1 r2 f0 f1 f2
                refine ⟨by kernel_rfl, fun wz hz => ?_⟩
                have r0 := hz.out.z2.cell 0; have r1 := hz.out.z2.cell 1; have r2 := hz.out.z2.cell 2; have s0 := hz.out.z3.cell 0; have s1 := hz.out.z3.cell 1; have s2 := hz.out.z3.cell 2; have t0 := hz.out.z4.cell 0; have t1 := hz.out.z4.cell 1; have t2 := hz.out.z4.cell 2
                simp at r0 r1 r2 s0 s1 s2 t0 t1 t2
                simp only [Act.put]
                clear D9
                go_wp2
                refine bodyPost_ret (v := .tuple #[.agg #[.int .i64 g, (.slice ra n rc), (.slice ma m mc)], .agg #[(.slice sa la na), .int .i64 QA, (.slice ta lt ma9)], .agg #[(.slice sb lb nb), .int .i64 QB, (.slice tb lu mb9)]]) ?_ rfl ?_
                · simp [results, Tryd.results40, go_sem, r0, r1, r2, s0, s1, s2, t0, t1, t2]
                · exact ⟨g, _, _, _, QA, _, _, QB, _, rows, makes, SA, TA, SB, TB, rfl, fun w'' ha => ⟨(ST.out w'' (hz.out.ab.trans (ha.mono (by omega)))).1, ⟨Ints.of_own (own_heap hz.out.a.s fun b hb => ha.2 b (by have := (hz.out.a.s.lt b hb).1; omega) (hz.out.a.s.lt b hb).2) (by rw [HLA.out]; unfold maxLen; omega), Ints.of_own (own_heap hz.out.a.t fun b hb => ha.2 b (by have := (hz.out.a.t.lt b hb).1; omega) (hz.out.a.t.lt b hb).2) (by rw [HLT.out]; unfold maxLen; omega)⟩, Ints.of_own (own_heap hz.out.b.s fun b hb => ha.2 b (by have := (hz.out.b.s.lt b hb).1; omega) (hz.out.b.s.lt b hb).2) (by rw [HLB.out]; unfold maxLen; omega), Ints.of_own (own_heap hz.out.b.t fun b hb => ha.2 b (by have := (hz.out.b.t.lt b hb).1; omega) (hz.out.b.t.lt b hb).2) (by rw [HLU.out]; unfold maxLen; omega)⟩, hz.out.gr⟩
            · have x0 := A6.out.box.cell 0
              simp at x0
              go_wp2_with (at_builtin; refine wpAppInt rfl _ _ rfl rfl A6.out.s (by rw [HLA.out]; omega) A6.out.2.1 rfl ?_)
              intro v8 w8 o8 g8 k8
              obtain ⟨s8, n8, e8⟩ := Own.form o8
              rw [List.length_append, HLA.out, show la + [(1 : Int)].length = la + 1 from rfl] at e8
              subst e8
              have x1 := (A6.out.box.kept (g8.block _ A6.out.box.lt fun e => A6.out.ne Na (.inl e.symm) rfl)).cell 0
              have y1 := (A6.out.box.kept (g8.block _ A6.out.box.lt fun e => A6.out.ne Na (.inl e.symm) rfl)).frozen 0
              simp at x1
              have F7 : Hid (Fw w R (w.heap.size + 3) w2 BX (w8.setCell ⟨Na, 0, none⟩ (.slice s8 (la + 1) n8)) ((k4 + 1) + 1)) := Lib.hid ((F6.out.app g8 fun q hq => (A6.out.s.lt q hq).1).put A6.out.n _)
              have A7 := Lib.hid (A6.out.say o8 g8 k8)
              have B7 : Hid (Wt w3.heap.size QB SB TB (.slice sb lb nb) (.slice tb lu mb9) Nb (w8.setCell ⟨Na, 0, none⟩ (.slice s8 (la + 1) n8))) := Lib.hid ((B6.out.keep g8.size fun q h1 h2 => g8.block q h2 fun e => by have := hAO.out q (.inl e.symm); omega).off hNA.out)
              clear o8 g8 k8 F6 A6 B6 x0
              obtain ⟨w7, hw9⟩ : ∃ w9, w9 = w8.setCell ⟨Na, 0, none⟩ (.slice s8 (la + 1) n8) := ⟨_, rfl⟩
              rw [← hw9] at F7 A7 B7
              go_upto_region 9 with (fail)
              rw [← hw9]
              clear hw9 x1 y1
              have D9 : Hid (Q9 w R w2 w1.heap.size [.int .i64 g, (.slice ra n rc), (.slice ma m mc)] [(.slice s8 (la + 1) n8), .int .i64 QA, (.slice ta lt ma9)] [(.slice sb lb nb), .int .i64 QB, (.slice tb lu mb9)] QA (SA ++ [1]) TA (.slice s8 (la + 1) n8) (.slice ta lt ma9) Na w3.heap.size QB SB TB (.slice sb lb nb) (.slice tb lu mb9) Nb 0 w7.drew) := Lib.hid (Q9.on ⟨F7.out.gr, F7.out.ab, A7.out, B7.out, F7.out.box BC.out, F7.out.box BZ0.out, F7.out.box BZ1.out, F7.out.box BZ2.out, by omega, hl3, by omega⟩ (Below.refl _ _).drew)
              clear F7 A7 B7
              go_wp2_with fail
              apply wp_region_H (Z := Nat) (S := fun k => k == 3 || k == 4 || k == 5) (C := fun j w' => Hid (Q9 w R w2 w1.heap.size [.int .i64 g, (.slice ra n rc), (.slice ma m mc)] [(.slice s8 (la + 1) n8), .int .i64 QA, (.slice ta lt ma9)] [(.slice sb lb nb), .int .i64 QB, (.slice tb lu mb9)] QA (SA ++ [1]) TA (.slice s8 (la + 1) n8) (.slice ta lt ma9) Na w3.heap.size QB SB TB (.slice sb lb nb) (.slice tb lu mb9) Nb j w')) [0, 1, 2] 0
              · kernel_rfl
              · kernel_rfl
              · kernel_rfl
              · exact ⟨rfl, rfl, rfl, trivial⟩
              · rfl
              · decide
              · exact D9
              · intro z
                dsimp only [pickL, nthO]
                repeat (first | go_big_quiet_skip | (go_big_quiet_want; go_big_quiet_op; first | go_big_quiet_on | (refine ⟨_, fun _ _ => rfl, ?_⟩; go_big_quiet_on)))
                go_big_quiet_want
                go_big_quiet_op
                refine ⟨.agg #[.int .i64 g, (.slice ra n rc), (.slice ma m mc)], fun w' hw' => ?_, ?_⟩
                · have q0 := hw'.out.c.cell 0; have q1 := hw'.out.c.cell 1; have q2 := hw'.out.c.cell 2
                  simp at q0 q1 q2
                  simp [go_sem, q0, q1, q2]
                go_big_quiet_on
                repeat (first | go_big_quiet_skip | (go_big_quiet_want; go_big_quiet_op; first | go_big_quiet_on | (refine ⟨_, fun _ _ => rfl, ?_⟩; go_big_quiet_on)))
                go_big_quiet_want
                go_big_quiet_op
                refine ⟨.agg #[(.slice s8 (la + 1) n8), .int .i64 QA, (.slice ta lt ma9)], fun w' hw' => ?_, ?_⟩
                · have q0 := hw'.out.a.box.cell 0; have q1 := hw'.out.a.box.cell 1; have q2 := hw'.out.a.box.cell 2
                  simp at q0 q1 q2
                  simp [go_sem, q0, q1, q2]
                go_big_quiet_on
                repeat (first | go_big_quiet_skip | (go_big_quiet_want; go_big_quiet_op; first | go_big_quiet_on | (refine ⟨_, fun _ _ => rfl, ?_⟩; go_big_quiet_on)))
                go_big_quiet_want
                go_big_quiet_op
                refine ⟨.agg #[(.slice sb lb nb), .int .i64 QB, (.slice tb lu mb9)], fun w' hw' => ?_, ?_⟩
                · have q0 := hw'.out.b.box.cell 0; have q1 := hw'.out.b.box.cell 1; have q2 := hw'.out.b.box.cell 2
                  simp at q0 q1 q2
                  simp [go_sem, q0, q1, q2]
                go_big_quiet_on
                repeat (first | go_big_quiet_skip | (go_big_quiet_want; go_big_quiet_op; first | go_big_quiet_on | (refine ⟨_, fun _ _ => rfl, ?_⟩; go_big_quiet_on)))
                exact wpQuiet_nil rfl
              · skip
                refine wpAnyH_special (i := 3) (d := none) rfl (by kernel_rfl) rfl rfl (by kernel_rfl) fun we he => ?_
                have r0 := he.out.z2.cell 0; have r1 := he.out.z2.cell 1; have r2 := he.out.z2.cell 2; have f0 := he.out.z2.frozen 0; have f1 := he.out.z2.frozen 1; have f2 := he.out.z2.frozen 2
                simp at r0 r1 r2
                refine ⟨undef, pt3 we w.heap.size (.int .i64 g) (.slice ra n rc) (.slice ma m mc), 1, .inr ⟨by simp [go_sem, pt3, r0, r1, r2, f0, f1, f2], rfl⟩, Lib.hid he.out.put2, ?_⟩
                clear he r0 r1 r2 f0 f1 f2
                refine wpAnyH_special (i := 4) (d := none) rfl (by kernel_rfl) rfl rfl (by kernel_rfl) fun we he => ?_
                have r0 := he.out.z3.cell 0; have r1 := he.out.z3.cell 1; have r2 := he.out.z3.cell 2; have f0 := he.out.z3.frozen 0; have f1 := he.out.z3.frozen 1; have f2 := he.out.z3.frozen 2
                simp at r0 r1 r2
                refine ⟨undef, pt3 we (w.heap.size + 1) (.slice s8 (la + 1) n8) (.int .i64 QA) (.slice ta lt ma9), 2, .inr ⟨by simp [go_sem, pt3, r0, r1, r2, f0, f1, f2], rfl⟩, Lib.hid he.out.put3, ?_⟩
                clear he r0 r1 r2 f0 f1 f2
                refine wpAnyH_special (i := 5) (d := none) rfl (by kernel_rfl) rfl rfl (by kernel_rfl) fun we he => ?_
                have r0 := he.out.z4.cell 0; have r1 := he.out.z4.cell 1; have r2 := he.out.z4.cell 2; have f0 := he.out.z4.frozen 0; have f1 := he.out.z4.frozen 1; have f2 := he.out.z4.frozen 2
                simp at r0 r1 r2
                refine ⟨undef, pt3 we (w.heap.size + 2) (.slice sb lb nb) (.int .i64 QB) (.slice tb lu mb9), 3, .inr ⟨by simp [go_sem, pt3, r0, r1, r2, f0, f1, f2], rfl⟩, Lib.hid he.out.put4, ?_⟩
                clear he r0 r1 r2 f0 f1 f2
                refine ⟨by kernel_rfl, fun wz hz => ?_⟩
                have r0 := hz.out.z2.cell 0; have r1 := hz.out.z2.cell 1; have r2 := hz.out.z2.cell 2; have s0 := hz.out.z3.cell 0; have s1 := hz.out.z3.cell 1; have s2 := hz.out.z3.cell 2; have t0 := hz.out.z4.cell 0; have t1 := hz.out.z4.cell 1; have t2 := hz.out.z4.cell 2
                simp at r0 r1 r2 s0 s1 s2 t0 t1 t2
                simp only [Act.put]
                clear D9
                go_wp2
                refine bodyPost_ret (v := .tuple #[.agg #[.int .i64 g, (.slice ra n rc), (.slice ma m mc)], .agg #[(.slice s8 (la + 1) n8), .int .i64 QA, (.slice ta lt ma9)], .agg #[(.slice sb lb nb), .int .i64 QB, (.slice tb lu mb9)]]) ?_ rfl ?_
                · simp [results, Tryd.results40, go_sem, r0, r1, r2, s0, s1, s2, t0, t1, t2]
                · exact ⟨g, _, _, _, QA, _, _, QB, _, rows, makes, (SA ++ [1]), TA, SB, TB, rfl, fun w'' ha => ⟨(ST.out w'' (hz.out.ab.trans (ha.mono (by omega)))).1, ⟨Ints.of_own (own_heap hz.out.a.s fun b hb => ha.2 b (by have := (hz.out.a.s.lt b hb).1; omega) (hz.out.a.s.lt b hb).2) (by rw [List.length_append, HLA.out]; unfold maxLen; simp; omega), Ints.of_own (own_heap hz.out.a.t fun b hb => ha.2 b (by have := (hz.out.a.t.lt b hb).1; omega) (hz.out.a.t.lt b hb).2) (by rw [HLT.out]; unfold maxLen; omega)⟩, Ints.of_own (own_heap hz.out.b.s fun b hb => ha.2 b (by have := (hz.out.b.s.lt b hb).1; omega) (hz.out.b.s.lt b hb).2) (by rw [HLB.out]; unfold maxLen; omega), Ints.of_own (own_heap hz.out.b.t fun b hb => ha.2 b (by have := (hz.out.b.t.lt b hb).1; omega) (hz.out.b.t.lt b hb).2) (by rw [HLU.out]; unfold maxLen; omega)⟩, hz.out.gr⟩
          · have x2 := A5.out.box.cell 2
            simp at x2
            by_cases hz0 : lt = 0
            · have hz1 : ¬ (lt : Int) > 0 := by omega
              clear hz0
              go_upto_region 7 with (fail)
              clear x2
              go_wp2_with fail
              refine (odd_any R (k4 + 1) 12 w5 F5.out.rd (by omega) (by omega) (by omega)).mono ?_
              rintro e w6 ⟨b6, rfl, mm, hw⟩
              have hgp := grown_pick w5 R (k4 + 1) mm
              rw [← hw] at hgp
              have F6 : Hid (Fw w R (w.heap.size + 3) w2 BX w6 ((k4 + 1) + 1)) := Lib.hid (F5.out.draw hgp (by rw [hw]; exact F5.out.rd.next mm))
              have A6 := Lib.hid (A5.out.draw hgp hR2)
              have B6 := Lib.hid (B5.out.draw hgp hR3)
              clear hw hgp F5 A5 B5
              cases b6
              · have D9 : Hid (Q9 w R w2 w1.heap.size [.int .i64 g, (.slice ra n rc), (.slice ma m mc)] [(.slice sa la na), .int .i64 QA, (.slice ta lt ma9)] [(.slice sb lb nb), .int .i64 QB, (.slice tb lu mb9)] QA SA TA (.slice sa la na) (.slice ta lt ma9) Na w3.heap.size QB SB TB (.slice sb lb nb) (.slice tb lu mb9) Nb 0 w6.drew) := Lib.hid (Q9.on ⟨F6.out.gr, F6.out.ab, A6.out, B6.out, F6.out.box BC.out, F6.out.box BZ0.out, F6.out.box BZ1.out, F6.out.box BZ2.out, by omega, hl3, by omega⟩ (Below.refl _ _).drew)
                clear F6 A6 B6
                go_wp2_with fail
                apply wp_region_H (Z := Nat) (S := fun k => k == 3 || k == 4 || k == 5) (C := fun j w' => Hid (Q9 w R w2 w1.heap.size [.int .i64 g, (.slice ra n rc), (.slice ma m mc)] [(.slice sa la na), .int .i64 QA, (.slice ta lt ma9)] [(.slice sb lb nb), .int .i64 QB, (.slice tb lu mb9)] QA SA TA (.slice sa la na) (.slice ta lt ma9) Na w3.heap.size QB SB TB (.slice sb lb nb) (.slice tb lu mb9) Nb j w')) [0, 1, 2] 0
                · kernel_rfl
                · kernel_rfl
                · kernel_rfl
                · exact ⟨rfl, rfl, rfl, trivial⟩
                · rfl
                · decide
                · exact D9
                · intro z
                  dsimp only [pickL, nthO]
                  repeat (first | go_big_quiet_skip | (go_big_quiet_want; go_big_quiet_op; first | go_big_quiet_on | (refine ⟨_, fun _ _ => rfl, ?_⟩; go_big_quiet_on)))
                  go_big_quiet_want
                  go_big_quiet_op
                  refine ⟨.agg #[.int .i64 g, (.slice ra n rc), (.slice ma m mc)], fun w' hw' => ?_, ?_⟩
                  · have q0 := hw'.out.c.cell 0; have q1 := hw'.out.c.cell 1; have q2 := hw'.out.c.cell 2
                    simp at q0 q1 q2
                    simp [go_sem, q0, q1, q2]
                  go_big_quiet_on
                  repeat (first | go_big_quiet_skip | (go_big_quiet_want; go_big_quiet_op; first | go_big_quiet_on | (refine ⟨_, fun _ _ => rfl, ?_⟩; go_big_quiet_on)))
                  go_big_quiet_want
                  go_big_quiet_op
                  refine ⟨.agg #[(.slice sa la na), .int .i64 QA, (.slice ta lt ma9)], fun w' hw' => ?_, ?_⟩
                  · have q0 := hw'.out.a.box.cell 0; have q1 := hw'.out.a.box.cell 1; have q2 := hw'.out.a.box.cell 2
                    simp at q0 q1 q2
                    simp [go_sem, q0, q1, q2]
                  go_big_quiet_on
                  repeat (first | go_big_quiet_skip | (go_big_quiet_want; go_big_quiet_op; first | go_big_quiet_on | (refine ⟨_, fun _ _ => rfl, ?_⟩; go_big_quiet_on)))
                  go_big_quiet_want
                  go_big_quiet_op
                  refine ⟨.agg #[(.slice sb lb nb), .int .i64 QB, (.slice tb lu mb9)], fun w' hw' => ?_, ?_⟩
                  · have q0 := hw'.out.b.box.cell 0; have q1 := hw'.out.b.box.cell 1; have q2 := hw'.out.b.box.cell 2
                    simp at q0 q1 q2
                    simp [go_sem, q0, q1, q2]
                  go_big_quiet_on
                  repeat (first | go_big_quiet_skip | (go_big_quiet_want; go_big_quiet_op; first | go_big_quiet_on | (refine ⟨_, fun _ _ => rfl, ?_⟩; go_big_quiet_on)))
                  exact wpQuiet_nil rfl
                · skip
                  refine wpAnyH_special (i := 3) (d := none) rfl (by kernel_rfl) rfl rfl (by kernel_rfl) fun we he => ?_
                  have r0 := he.out.z2.cell 0; have r1 := he.out.z2.cell 1; have r2 := he.out.z2.cell 2; have f0 := he.out.z2.frozen 0; have f1 := he.out.z2.frozen 1; have f2 := he.out.z2.frozen 2
                  simp at r0 r1 r2
                  refine ⟨undef, pt3 we w.heap.size (.int .i64 g) (.slice ra n rc) (.slice ma m mc), 1, .inr ⟨by simp [go_sem, pt3, r0, r1, r2, f0, f1, f2], rfl⟩, Lib.hid he.out.put2, ?_⟩
                  clear he r0 r1 r2 f0 f1 f2
                  refine wpAnyH_special (i := 4) (d := none) rfl (by kernel_rfl) rfl rfl (by kernel_rfl) fun we he => ?_
                  have r0 := he.out.z3.cell 0; have r1 := he.out.z3.cell 1; have r2 := he.out.z3.cell 2; have f0 := he.out.z3.frozen 0; have f1 := he.out.z3.frozen 1; have f2 := he.out.z3.frozen 2
                  simp at r0 r1 r2
                  refine ⟨undef, pt3 we (w.heap.size + 1) (.slice sa la na) (.int .i64 QA) (.slice ta lt ma9), 2, .inr ⟨by simp [go_sem, pt3, r0, r1, r2, f0, f1, f2], rfl⟩, Lib.hid he.out.put3, ?_⟩
                  clear he r0 r1 r2 f0 f1 f2
                  refine wpAnyH_special (i := 5) (d := none) rfl (by kernel_rfl) rfl rfl (by kernel_rfl) fun we he => ?_
                  have r0 := he.out.z4.cell 0; have r1 := he.out.z4.cell 1; have r2 := he.out.z4.cell 2; have f0 := he.out.z4.frozen 0; have f1 := he.out.z4.frozen 1; have f2 := he.out.z4.frozen 2
                  simp at r0 r1 r2
                  refine ⟨undef, pt3 we (w.heap.size + 2) (.slice sb lb nb) (.int .i64 QB) (.slice tb lu mb9), 3, .inr ⟨by simp [go_sem, pt3, r0, r1, r2, f0, f1, f2], rfl⟩, Lib.hid he.out.put4, ?_⟩
                  clear he r0 r1 r2 f0 f1 f2
                  refine ⟨by kernel_rfl, fun wz hz => ?_⟩
                  have r0 := hz.out.z2.cell 0; have r1 := hz.out.z2.cell 1; have r2 := hz.out.z2.cell 2; have s0 := hz.out.z3.cell 0; have s1 := hz.out.z3.cell 1; have s2 := hz.out.z3.cell 2; have t0 := hz.out.z4.cell 0; have t1 := hz.out.z4.cell 1; have t2 := hz.out.z4.cell 2
                  simp at r0 r1 r2 s0 s1 s2 t0 t1 t2
                  simp only [Act.put]
                  clear D9
                  go_wp2
                  refine bodyPost_ret (v := .tuple #[.agg #[.int .i64 g, (.slice ra n rc), (.slice ma m mc)], .agg #[(.slice sa la na), .int .i64 QA, (.slice ta lt ma9)], .agg #[(.slice sb lb nb), .int .i64 QB, (.slice tb lu mb9)]]) ?_ rfl ?_
                  · simp [results, Tryd.results40, go_sem, r0, r1, r2, s0, s1, s2, t0, t1, t2]
                  · exact ⟨g, _, _, _, QA, _, _, QB, _, rows, makes, SA, TA, SB, TB, rfl, fun w'' ha => ⟨(ST.out w'' (hz.out.ab.trans (ha.mono (by omega)))).1, ⟨Ints.of_own (own_heap hz.out.a.s fun b hb => ha.2 b (by have := (hz.out.a.s.lt b hb).1; omega) (hz.out.a.s.lt b hb).2) (by rw [HLA.out]; unfold maxLen; omega), Ints.of_own (own_heap hz.out.a.t fun b hb => ha.2 b (by have := (hz.out.a.t.lt b hb).1; omega) (hz.out.a.t.lt b hb).2) (by rw [HLT.out]; unfold maxLen; omega)⟩, Ints.of_own (own_heap hz.out.b.s fun b hb => ha.2 b (by have := (hz.out.b.s.lt b hb).1; omega) (hz.out.b.s.lt b hb).2) (by rw [HLB.out]; unfold maxLen; omega), Ints.of_own (own_heap hz.out.b.t fun b hb => ha.2 b (by have := (hz.out.b.t.lt b hb).1; omega) (hz.out.b.t.lt b hb).2) (by rw [HLU.out]; unfold maxLen; omega)⟩, hz.out.gr⟩
              · have x0 := A6.out.box.cell 0
                simp at x0
                go_wp2_with (at_builtin; refine wpAppInt rfl _ _ rfl rfl A6.out.s (by rw [HLA.out]; omega) A6.out.2.1 rfl ?_)
                intro v8 w8 o8 g8 k8
                obtain ⟨s8, n8, e8⟩ := Own.form o8
                rw [List.length_append, HLA.out, show la + [(1 : Int)].length = la + 1 from rfl] at e8
                subst e8
                have x1 := (A6.out.box.kept (g8.block _ A6.out.box.lt fun e => A6.out.ne Na (.inl e.symm) rfl)).cell 0
                have y1 := (A6.out.box.kept (g8.block _ A6.out.box.lt fun e => A6.out.ne Na (.inl e.symm) rfl)).frozen 0
                simp at x1
                have F7 : Hid (Fw w R (w.heap.size + 3) w2 BX (w8.setCell ⟨Na, 0, none⟩ (.slice s8 (la + 1) n8)) ((k4 + 1) + 1)) := Lib.hid ((F6.out.app g8 fun q hq => (A6.out.s.lt q hq).1).put A6.out.n _)
                have A7 := Lib.hid (A6.out.say o8 g8 k8)
                have B7 : Hid (Wt w3.heap.size QB SB TB (.slice sb lb nb) (.slice tb lu mb9) Nb (w8.setCell ⟨Na, 0, none⟩ (.slice s8 (la + 1) n8))) := Lib.hid ((B6.out.keep g8.size fun q h1 h2 => g8.block q h2 fun e => by have := hAO.out q (.inl e.symm); omega).off hNA.out)
                clear o8 g8 k8 F6 A6 B6 x0
                obtain ⟨w7, hw9⟩ : ∃ w9, w9 = w8.setCell ⟨Na, 0, none⟩ (.slice s8 (la + 1) n8) := ⟨_, rfl⟩
                rw [← hw9] at F7 A7 B7
                go_upto_region 9 with (fail)
                rw [← hw9]
                clear hw9 x1 y1
                have D9 : Hid (Q9 w R w2 w1.heap.size [.int .i64 g, (.slice ra n rc), (.slice ma m mc)] [(.slice s8 (la + 1) n8), .int .i64 QA, (.slice ta lt ma9)] [(.slice sb lb nb), .int .i64 QB, (.slice tb lu mb9)] QA (SA ++ [1]) TA (.slice s8 (la + 1) n8) (.slice ta lt ma9) Na w3.heap.size QB SB TB (.slice sb lb nb) (.slice tb lu mb9) Nb 0 w7.drew) := Lib.hid (Q9.on ⟨F7.out.gr, F7.out.ab, A7.out, B7.out, F7.out.box BC.out, F7.out.box BZ0.out, F7.out.box BZ1.out, F7.out.box BZ2.out, by omega, hl3, by omega⟩ (Below.refl _ _).drew)
                clear F7 A7 B7
                go_wp2_with fail
                apply wp_region_H (Z := Nat) (S := fun k => k == 3 || k == 4 || k == 5) (C := fun j w' => Hid (Q9 w R w2 w1.heap.size [.int .i64 g, (.slice ra n rc), (.slice ma m mc)] [(.slice s8 (la + 1) n8), .int .i64 QA, (.slice ta lt ma9)] [(.slice sb lb nb), .int .i64 QB, (.slice tb lu mb9)] QA (SA ++ [1]) TA (.slice s8 (la + 1) n8) (.slice ta lt ma9) Na w3.heap.size QB SB TB (.slice sb lb nb) (.slice tb lu mb9) Nb j w')) [0, 1, 2] 0
                · kernel_rfl
                · kernel_rfl
                · kernel_rfl
                · exact ⟨rfl, rfl, rfl, trivial⟩
                · rfl
                · decide
                · exact D9
                · intro z
                  dsimp only [pickL, nthO]
                  repeat (first | go_big_quiet_skip | (go_big_quiet_want; go_big_quiet_op; first | go_big_quiet_on | (refine ⟨_, fun _ _ => rfl, ?_⟩; go_big_quiet_on)))
                  go_big_quiet_want
                  go_big_quiet_op
                  refine ⟨.agg #[.int .i64 g, (.slice ra n rc), (.slice ma m mc)], fun w' hw' => ?_, ?_⟩
                  · have q0 := hw'.out.c.cell 0; have q1 := hw'.out.c.cell 1; have q2 := hw'.out.c.cell 2
                    simp at q0 q1 q2
                    simp [go_sem, q0, q1, q2]
                  go_big_quiet_on
                  repeat (first | go_big_quiet_skip | (go_big_quiet_want; go_big_quiet_op; first | go_big_quiet_on | (refine ⟨_, fun _ _ => rfl, ?_⟩; go_big_quiet_on)))
                  go_big_quiet_want
                  go_big_quiet_op
                  refine ⟨.agg #[(.slice s8 (la + 1) n8), .int .i64 QA, (.slice ta lt ma9)], fun w' hw' => ?_, ?_⟩
                  · have q0 := hw'.out.a.box.cell 0; have q1 := hw'.out.a.box.cell 1; have q2 := hw'.out.a.box.cell 2
                    simp at q0 q1 q2
                    simp [go_sem, q0, q1, q2]
                  go_big_quiet_on
                  repeat (first | go_big_quiet_skip | (go_big_quiet_want; go_big_quiet_op; first | go_big_quiet_on | (refine ⟨_, fun _ _ => rfl, ?_⟩; go_big_quiet_on)))
                  go_big_quiet_want
                  go_big_quiet_op
                  refine ⟨.agg #[(.slice sb lb nb), .int .i64 QB, (.slice tb lu mb9)], fun w' hw' => ?_, ?_⟩
                  · have q0 := hw'.out.b.box.cell 0; have q1 := hw'.out.b.box.cell 1; have q2 := hw'.out.b.box.cell 2
                    simp at q0 q1 q2
                    simp [go_sem, q0, q1, q2]
                  go_big_quiet_on
                  repeat (first | go_big_quiet_skip | (go_big_quiet_want; go_big_quiet_op; first | go_big_quiet_on | (refine ⟨_, fun _ _ => rfl, ?_⟩; go_big_quiet_on)))
                  exact wpQuiet_nil rfl
                · skip
                  refine wpAnyH_special (i := 3) (d := none) rfl (by kernel_rfl) rfl rfl (by kernel_rfl) fun we he => ?_
                  have r0 := he.out.z2.cell 0; have r1 := he.out.z2.cell 1; have r2 := he.out.z2.cell 2; have f0 := he.out.z2.frozen 0; have f1 := he.out.z2.frozen 1; have f2 := he.out.z2.frozen 2
                  simp at r0 r1 r2
                  refine ⟨undef, pt3 we w.heap.size (.int .i64 g) (.slice ra n rc) (.slice ma m mc), 1, .inr ⟨by simp [go_sem, pt3, r0, r1, r2, f0, f1, f2], rfl⟩, Lib.hid he.out.put2, ?_⟩
                  clear he r0 r1 r2 f0 f1 f2
                  refine wpAnyH_special (i := 4) (d := none) rfl (by kernel_rfl) rfl rfl (by kernel_rfl) fun we he => ?_
                  have r0 := he.out.z3.cell 0; have r1 := he.out.z3.cell 1; have r2 := he.out.z3.cell 2; have f0 := he.out.z3.frozen 0; have f1 := he.out.z3.frozen 1; have f2 := he.out.z3.frozen 2
                  simp at r0 r1 r2
                  refine ⟨undef, pt3 we (w.heap.size + 1) (.slice s8 (la + 1) n8) (.int .i64 QA) (.slice ta lt ma9), 2, .inr ⟨by simp [go_sem, pt3, r0, r1, r2, f0, f1, f2], rfl⟩, Lib.hid he.out.put3, ?_⟩
                  clear he r0 r1 r2 f0 f1 f2
                  refine wpAnyH_special (i := 5) (d := none) rfl (by kernel_rfl) rfl rfl (by kernel_rfl) fun we he => ?_
                  have r0 := he.out.z4.cell 0; have r1 := he.out.z4.cell 1; have r2 := he.out.z4.cell 2; have f0 := he.out.z4.frozen 0; have f1 := he.out.z4.frozen 1; have f2 := he.out.z4.frozen 2
                  simp at r0 r1 r2
                  refine ⟨undef, pt3 we (w.heap.size + 2) (.slice sb lb nb) (.int .i64 QB) (.slice tb lu mb9), 3, .inr ⟨by simp [go_sem, pt3, r0, r1, r2, f0, f1, f2], rfl⟩, Lib.hid he.out.put4, ?_⟩
                  clear he r0 r1 r2 f0 f1 f2
                  refine ⟨by kernel_rfl, fun wz hz => ?_⟩
                  have r0 := hz.out.z2.cell 0; have r1 := hz.out.z2.cell 1; have r2 := hz.out.z2.cell 2; have s0 := hz.out.z3.cell 0; have s1 := hz.out.z3.cell 1; have s2 := hz.out.z3.cell 2; have t0 := hz.out.z4.cell 0; have t1 := hz.out.z4.cell 1; have t2 := hz.out.z4.cell 2
                  simp at r0 r1 r2 s0 s1 s2 t0 t1 t2
                  simp only [Act.put]
                  clear D9
                  go_wp2
                  refine bodyPost_ret (v := .tuple #[.agg #[.int .i64 g, (.slice ra n rc), (.slice ma m mc)], .agg #[(.slice s8 (la + 1) n8), .int .i64 QA, (.slice ta lt ma9)], .agg #[(.slice sb lb nb), .int .i64 QB, (.slice tb lu mb9)]]) ?_ rfl ?_
                  · simp [results, Tryd.results40, go_sem, r0, r1, r2, s0, s1, s2, t0, t1, t2]
                  · exact ⟨g, _, _, _, QA, _, _, QB, _, rows, makes, (SA ++ [1]), TA, SB, TB, rfl, fun w'' ha => ⟨(ST.out w'' (hz.out.ab.trans (ha.mono (by omega)))).1, ⟨Ints.of_own (own_heap hz.out.a.s fun b hb => ha.2 b (by have := (hz.out.a.s.lt b hb).1; omega) (hz.out.a.s.lt b hb).2) (by rw [List.length_append, HLA.out]; unfold maxLen; simp; omega), Ints.of_own (own_heap hz.out.a.t fun b hb => ha.2 b (by have := (hz.out.a.t.lt b hb).1; omega) (hz.out.a.t.lt b hb).2) (by rw [HLT.out]; unfold maxLen; omega)⟩, Ints.of_own (own_heap hz.out.b.s fun b hb => ha.2 b (by have := (hz.out.b.s.lt b hb).1; omega) (hz.out.b.s.lt b hb).2) (by rw [HLB.out]; unfold maxLen; omega), Ints.of_own (own_heap hz.out.b.t fun b hb => ha.2 b (by have := (hz.out.b.t.lt b hb).1; omega) (hz.out.b.t.lt b hb).2) (by rw [HLU.out]; unfold maxLen; omega)⟩, hz.out.gr⟩
            · have hz1 : (lt : Int) > 0 := by omega
              obtain ⟨T9, c9, eT⟩ := own_slice' A5.out.t (by rw [HLT.out]; omega)
              have eT2 : ta = some ⟨T9, 0, none⟩ ∧ ma9 = c9 := by cases eT; exact ⟨rfl, rfl⟩
              obtain ⟨rfl, rfl⟩ := eT2
              clear eT
              go_upto_region 6 with (fail)
              clear x2
              have D6 : (fun (z : Nat × Option Int) w' => Hid ((∃ k', k' ≤ (k4 + 1) + 10 * z.1 ∧ Fw w R (w.heap.size + 3) w2 BX w' k') ∧ Wt w2.heap.size QA SA (match z.2 with | none => TA | some x => TA.set 0 x) (.slice sa la na) (.slice (some ⟨T9, 0, none⟩) lt ma9) Na w' ∧ Wt w3.heap.size QB SB TB (.slice sb lb nb) (.slice tb lu mb9) Nb w')) (0, none) w5.drew := Lib.hid ⟨⟨(k4 + 1), by simp, F5.out.on (Below.refl _ _).drew⟩, A5.out.on (Below.refl _ _).drew, B5.out.on (Below.refl _ _).drew⟩
              clear F5 A5 B5
              go_wp2_with fail
              apply wp_region_H (Z := Nat × Option Int) (S := fun k => k == 5 || k == 6 || k == 7) (C := fun z w' => Hid ((∃ k', k' ≤ (k4 + 1) + 10 * z.1 ∧ Fw w R (w.heap.size + 3) w2 BX w' k') ∧ Wt w2.heap.size QA SA (match z.2 with | none => TA | some x => TA.set 0 x) (.slice sa la na) (.slice (some ⟨T9, 0, none⟩) lt ma9) Na w' ∧ Wt w3.heap.size QB SB TB (.slice sb lb nb) (.slice tb lu mb9) Nb w')) [0, 1, 2, 3, 4] (0, none)
              · kernel_rfl
              · kernel_rfl
              · kernel_rfl
              · exact ⟨rfl, rfl, rfl, rfl, rfl, trivial⟩
              · rfl
              · decide
              · exact D6
              · intro z
                dsimp only [pickL, nthO]
                repeat (first | go_big_quiet_skip | (go_big_quiet_want; go_big_quiet_op; first | go_big_quiet_on | (refine ⟨_, fun _ _ => rfl, ?_⟩; go_big_quiet_on)))
                go_big_quiet_want
                go_big_quiet_op
                refine ⟨(.slice (some ⟨T9, 0, none⟩) lt ma9), fun w' hw' => ?_, ?_⟩
                · have q2 := hw'.out.2.1.box.cell 2
                  simp at q2
                  simp [go_sem, q2]
                go_big_quiet_on
                repeat (first | go_big_quiet_skip | (go_big_quiet_want; go_big_quiet_op; first | go_big_quiet_on | (refine ⟨_, fun _ _ => rfl, ?_⟩; go_big_quiet_on)))
                go_big_quiet_want
                go_big_quiet_op
                refine ⟨.int .i64 g, fun w' hw' => ?_, ?_⟩
                · obtain ⟨kq, _, fq⟩ := hw'.out.1
                  have q0 := (fq.box BC.out).cell 0
                  simp at q0
                  simp [go_sem, q0]
                go_big_quiet_on
                repeat (first | go_big_quiet_skip | (go_big_quiet_want; go_big_quiet_op; first | go_big_quiet_on | (refine ⟨_, fun _ _ => rfl, ?_⟩; go_big_quiet_on)))
                exact wpQuiet_nil rfl
              · skip
                refine wpAnyH_call (i := 5) (d := some 55) 89 #[.pointer (some ⟨R, 0, none⟩), .int .i64 g, .int .i64 9] rfl (by kernel_rfl) rfl rfl (by kernel_rfl) (fun _ => by kernel_rfl) fun wa hc => ?_
                obtain ⟨⟨ka, hka, hd⟩, ha6, hb6⟩ := hc.out
                refine (drawexp_any R ka g 9 wa hd.rd (by simp at hka; omega) (by omega) (by omega)).mono ?_
                rintro e wd ⟨x, rfl, hx0, hx1, g5, k5, hk5, hr5⟩
                refine ⟨_, rfl, (1, none), Lib.hid ⟨⟨k5, by simp at hka ⊢; omega, hd.draw g5 hr5⟩, ha6.draw g5 hR2, hb6.draw g5 hR3⟩, ?_⟩
                clear g5 hr5 hd ha6 hb6 hka hk5 hc
                refine wpAnyH_special (i := 6) (d := some 56) rfl (by kernel_rfl) rfl rfl (by kernel_rfl) fun wp hp => ⟨.pointer (some ⟨T9, 0, none⟩), wp, (1, none), .inl (by simp [go_sem, Act.put]; omega), hp, ?_⟩
                clear hp
                refine wpAnyH_special (i := 7) (d := none) rfl (by kernel_rfl) rfl rfl (by kernel_rfl) fun we he => ?_
                obtain ⟨⟨ke, hke, hd⟩, ha6, hb6⟩ := he.out
                obtain ⟨⟨f0, c0⟩, _, _⟩ := ha6.t.set HLT.out (by omega : 0 < lt) x
                refine ⟨undef, we.setCell ⟨T9, 0, none⟩ (.int .i64 x), (1, some x), .inr ⟨by simp [go_sem, Act.put, c0, f0], rfl⟩, Lib.hid ⟨⟨ke, hke, hd.put (ha6.t.lt T9 rfl).1 _⟩, ha6.tell HLT.out (by omega), hb6.off (hAO.out T9 (.inr rfl))⟩, ?_⟩
                clear he hd ha6 hb6 f0 c0 hke
                refine ⟨by kernel_rfl, fun w6 hz => ?_⟩
                simp only [Act.put]
                obtain ⟨⟨k6, hk6, f6⟩, a6, b6⟩ := hz.out
                have F6 := Lib.hid f6
                have A6 : Hid (Wt w2.heap.size QA SA (TA.set 0 x) (.slice sa la na) (.slice (some ⟨T9, 0, none⟩) lt ma9) Na w6) := Lib.hid a6
                have B6 := Lib.hid b6
                simp at hk6
                clear hz f6 a6 b6 D6
                go_wp2_with fail
                refine (odd_any R k6 12 w6 F6.out.rd (by omega) (by omega) (by omega)).mono ?_
                rintro e w7 ⟨b7, rfl, mm, hw⟩
                have hgp := grown_pick w6 R k6 mm
                rw [← hw] at hgp
                have F7 : Hid (Fw w R (w.heap.size + 3) w2 BX w7 (k6 + 1)) := Lib.hid (F6.out.draw hgp (by rw [hw]; exact F6.out.rd.next mm))
                have A7 := Lib.hid (A6.out.draw hgp hR2)
                have B7 := Lib.hid (B6.out.draw hgp hR3)
                clear hw hgp F6 A6 B6
                cases b7
                · have D9 : Hid (Q9 w R w2 w1.heap.size [.int .i64 g, (.slice ra n rc), (.slice ma m mc)] [(.slice sa la na), .int .i64 QA, (.slice (some ⟨T9, 0, none⟩) lt ma9)] [(.slice sb lb nb), .int .i64 QB, (.slice tb lu mb9)] QA SA (TA.set 0 x) (.slice sa la na) (.slice (some ⟨T9, 0, none⟩) lt ma9) Na w3.heap.size QB SB TB (.slice sb lb nb) (.slice tb lu mb9) Nb 0 w7.drew) := Lib.hid (Q9.on ⟨F7.out.gr, F7.out.ab, A7.out, B7.out, F7.out.box BC.out, F7.out.box BZ0.out, F7.out.box BZ1.out, F7.out.box BZ2.out, by omega, hl3, by omega⟩ (Below.refl _ _).drew)
                  clear F7 A7 B7
                  go_wp2_with fail
                  apply wp_region_H (Z := Nat) (S := fun k => k == 3 || k == 4 || k == 5) (C := fun j w' => Hid (Q9 w R w2 w1.heap.size [.int .i64 g, (.slice ra n rc), (.slice ma m mc)] [(.slice sa la na), .int .i64 QA, (.slice (some ⟨T9, 0, none⟩) lt ma9)] [(.slice sb lb nb), .int .i64 QB, (.slice tb lu mb9)] QA SA (TA.set 0 x) (.slice sa la na) (.slice (some ⟨T9, 0, none⟩) lt ma9) Na w3.heap.size QB SB TB (.slice sb lb nb) (.slice tb lu mb9) Nb j w')) [0, 1, 2] 0
                  · kernel_rfl
                  · kernel_rfl
                  · kernel_rfl
                  · exact ⟨rfl, rfl, rfl, trivial⟩
                  · rfl
                  · decide
                  · exact D9
                  · intro z
                    dsimp only [pickL, nthO]
                    repeat (first | go_big_quiet_skip | (go_big_quiet_want; go_big_quiet_op; first | go_big_quiet_on | (refine ⟨_, fun _ _ => rfl, ?_⟩; go_big_quiet_on)))
                    go_big_quiet_want
                    go_big_quiet_op
                    refine ⟨.agg #[.int .i64 g, (.slice ra n rc), (.slice ma m mc)], fun w' hw' => ?_, ?_⟩
                    · have q0 := hw'.out.c.cell 0; have q1 := hw'.out.c.cell 1; have q2 := hw'.out.c.cell 2
                      simp at q0 q1 q2
                      simp [go_sem, q0, q1, q2]
                    go_big_quiet_on
                    repeat (first | go_big_quiet_skip | (go_big_quiet_want; go_big_quiet_op; first | go_big_quiet_on | (refine ⟨_, fun _ _ => rfl, ?_⟩; go_big_quiet_on)))
                    go_big_quiet_want
                    go_big_quiet_op
                    refine ⟨.agg #[(.slice sa la na), .int .i64 QA, (.slice (some ⟨T9, 0, none⟩) lt ma9)], fun w' hw' => ?_, ?_⟩
                    · have q0 := hw'.out.a.box.cell 0; have q1 := hw'.out.a.box.cell 1; have q2 := hw'.out.a.box.cell 2
                      simp at q0 q1 q2
                      simp [go_sem, q0, q1, q2]
                    go_big_quiet_on
                    repeat (first | go_big_quiet_skip | (go_big_quiet_want; go_big_quiet_op; first | go_big_quiet_on | (refine ⟨_, fun _ _ => rfl, ?_⟩; go_big_quiet_on)))
                    go_big_quiet_want
                    go_big_quiet_op
                    refine ⟨.agg #[(.slice sb lb nb), .int .i64 QB, (.slice tb lu mb9)], fun w' hw' => ?_, ?_⟩
                    · have q0 := hw'.out.b.box.cell 0; have q1 := hw'.out.b.box.cell 1; have q2 := hw'.out.b.box.cell 2
                      simp at q0 q1 q2
                      simp [go_sem, q0, q1, q2]
                    go_big_quiet_on
                    repeat (first | go_big_quiet_skip | (go_big_quiet_want; go_big_quiet_op; first | go_big_quiet_on | (refine ⟨_, fun _ _ => rfl, ?_⟩; go_big_quiet_on)))
                    exact wpQuiet_nil rfl
                  · skip
                    refine wpAnyH_special (i := 3) (d := none) rfl (by kernel_rfl) rfl rfl (by kernel_rfl) fun we he => ?_
                    have r0 := he.out.z2.cell 0; have r1 := he.out.z2.cell 1; have r2 := he.out.z2.cell 2; have f0 := he.out.z2.frozen 0; have f1 := he.out.z2.frozen 1; have f2 := he.out.z2.frozen 2
                    simp at r0 r1 r2
                    refine ⟨undef, pt3 we w.heap.size (.int .i64 g) (.slice ra n rc) (.slice ma m mc), 1, .inr ⟨by simp [go_sem, pt3, r0, r1, r2, f0, f1, f2], rfl⟩, Lib.hid he.out.put2, ?_⟩
                    clear he r0 r1 r2 f0 f1 f2
                    refine wpAnyH_special (i := 4) (d := none) rfl (by kernel_rfl) rfl rfl (by kernel_rfl) fun we he => ?_
                    have r0 := he.out.z3.cell 0; have r1 := he.out.z3.cell 1; have r2 := he.out.z3.cell 2; have f0 := he.out.z3.frozen 0; have f1 := he.out.z3.frozen 1; have f2 := he.out.z3.frozen 2
                    simp at r0 r1 r2
                    refine ⟨undef, pt3 we (w.heap.size + 1) (.slice sa la na) (.int .i64 QA) (.slice (some ⟨T9, 0, none⟩) lt ma9), 2, .inr ⟨by simp [go_sem, pt3, r0, r1, r2, f0, f1, f2], rfl⟩, Lib.hid he.out.put3, ?_⟩
                    clear he r0 r1 r2 f0 f1 f2
                    refine wpAnyH_special (i := 5) (d := none) rfl (by kernel_rfl) rfl rfl (by kernel_rfl) fun we he => ?_
                    have r0 := he.out.z4.cell 0; have r1 := he.out.z4.cell 1; have r2 := he.out.z4.cell 2; have f0 := he.out.z4.frozen 0; have f1 := he.out.z4.frozen 1; have f2 := he.out.z4.frozen 2
                    simp at r0 r1 r2
                    refine ⟨undef, pt3 we (w.heap.size + 2) (.slice sb lb nb) (.int .i64 QB) (.slice tb lu mb9), 3, .inr ⟨by simp [go_sem, pt3, r0, r1, r2, f0, f1, f2], rfl⟩, Lib.hid he.out.put4, ?_⟩
                    clear he r0 r1 r2 f0 f1 f2
                    refine ⟨by kernel_rfl, fun wz hz => ?_⟩
                    have r0 := hz.out.z2.cell 0; have r1 := hz.out.z2.cell 1; have r2 := hz.out.z2.cell 2; have s0 := hz.out.z3.cell 0; have s1 := hz.out.z3.cell 1; have s2 := hz.out.z3.cell 2; have t0 := hz.out.z4.cell 0; have t1 := hz.out.z4.cell 1; have t2 := hz.out.z4.cell 2
                    simp at r0 r1 r2 s0 s1 s2 t0 t1 t2
                    simp only [Act.put]
                    clear D9
                    go_wp2
                    refine bodyPost_ret (v := .tuple #[.agg #[.int .i64 g, (.slice ra n rc), (.slice ma m mc)], .agg #[(.slice sa la na), .int .i64 QA, (.slice (some ⟨T9, 0, none⟩) lt ma9)], .agg #[(.slice sb lb nb), .int .i64 QB, (.slice tb lu mb9)]]) ?_ rfl ?_
                    · simp [results, Tryd.results40, go_sem, r0, r1, r2, s0, s1, s2, t0, t1, t2]
                    · exact ⟨g, _, _, _, QA, _, _, QB, _, rows, makes, SA, (TA.set 0 x), SB, TB, rfl, fun w'' ha => ⟨(ST.out w'' (hz.out.ab.trans (ha.mono (by omega)))).1, ⟨Ints.of_own (own_heap hz.out.a.s fun b hb => ha.2 b (by have := (hz.out.a.s.lt b hb).1; omega) (hz.out.a.s.lt b hb).2) (by rw [HLA.out]; unfold maxLen; omega), Ints.of_own (own_heap hz.out.a.t fun b hb => ha.2 b (by have := (hz.out.a.t.lt b hb).1; omega) (hz.out.a.t.lt b hb).2) (by rw [List.length_set, HLT.out]; unfold maxLen; omega)⟩, Ints.of_own (own_heap hz.out.b.s fun b hb => ha.2 b (by have := (hz.out.b.s.lt b hb).1; omega) (hz.out.b.s.lt b hb).2) (by rw [HLB.out]; unfold maxLen; omega), Ints.of_own (own_heap hz.out.b.t fun b hb => ha.2 b (by have := (hz.out.b.t.lt b hb).1; omega) (hz.out.b.t.lt b hb).2) (by rw [HLU.out]; unfold maxLen; omega)⟩, hz.out.gr⟩
                · have x0 := A7.out.box.cell 0
                  simp at x0
                  go_wp2_with (at_builtin; refine wpAppInt rfl _ _ rfl rfl A7.out.s (by rw [HLA.out]; omega) A7.out.2.1 rfl ?_)
                  intro v8 w8 o8 g8 k8
                  obtain ⟨s8, n8, e8⟩ := Own.form o8
                  rw [List.length_append, HLA.out, show la + [(1 : Int)].length = la + 1 from rfl] at e8
                  subst e8
                  have x1 := (A7.out.box.kept (g8.block _ A7.out.box.lt fun e => A7.out.ne Na (.inl e.symm) rfl)).cell 0
                  have y1 := (A7.out.box.kept (g8.block _ A7.out.box.lt fun e => A7.out.ne Na (.inl e.symm) rfl)).frozen 0
                  simp at x1
                  have F8 : Hid (Fw w R (w.heap.size + 3) w2 BX (w8.setCell ⟨Na, 0, none⟩ (.slice s8 (la + 1) n8)) (k6 + 1)) := Lib.hid ((F7.out.app g8 fun q hq => (A7.out.s.lt q hq).1).put A7.out.n _)
                  have A8 := Lib.hid (A7.out.say o8 g8 k8)
                  have B8 : Hid (Wt w3.heap.size QB SB TB (.slice sb lb nb) (.slice tb lu mb9) Nb (w8.setCell ⟨Na, 0, none⟩ (.slice s8 (la + 1) n8))) := Lib.hid ((B7.out.keep g8.size fun q h1 h2 => g8.block q h2 fun e => by have := hAO.out q (.inl e.symm); omega).off hNA.out)
                  clear o8 g8 k8 F7 A7 B7 x0
                  obtain ⟨w8, hw9⟩ : ∃ w9, w9 = w8.setCell ⟨Na, 0, none⟩ (.slice s8 (la + 1) n8) := ⟨_, rfl⟩
                  rw [← hw9] at F8 A8 B8
                  go_upto_region 9 with (fail)
                  rw [← hw9]
                  clear hw9 x1 y1
                  have D9 : Hid (Q9 w R w2 w1.heap.size [.int .i64 g, (.slice ra n rc), (.slice ma m mc)] [(.slice s8 (la + 1) n8), .int .i64 QA, (.slice (some ⟨T9, 0, none⟩) lt ma9)] [(.slice sb lb nb), .int .i64 QB, (.slice tb lu mb9)] QA (SA ++ [1]) (TA.set 0 x) (.slice s8 (la + 1) n8) (.slice (some ⟨T9, 0, none⟩) lt ma9) Na w3.heap.size QB SB TB (.slice sb lb nb) (.slice tb lu mb9) Nb 0 w8.drew) := Lib.hid (Q9.on ⟨F8.out.gr, F8.out.ab, A8.out, B8.out, F8.out.box BC.out, F8.out.box BZ0.out, F8.out.box BZ1.out, F8.out.box BZ2.out, by omega, hl3, by omega⟩ (Below.refl _ _).drew)
                  clear F8 A8 B8
                  go_wp2_with fail
                  apply wp_region_H (Z := Nat) (S := fun k => k == 3 || k == 4 || k == 5) (C := fun j w' => Hid (Q9 w R w2 w1.heap.size [.int .i64 g, (.slice ra n rc), (.slice ma m mc)] [(.slice s8 (la + 1) n8), .int .i64 QA, (.slice (some ⟨T9, 0, none⟩) lt ma9)] [(.slice sb lb nb), .int .i64 QB, (.slice tb lu mb9)] QA (SA ++ [1]) (TA.set 0 x) (.slice s8 (la + 1) n8) (.slice (some ⟨T9, 0, none⟩) lt ma9) Na w3.heap.size QB SB TB (.slice sb lb nb) (.slice tb lu mb9) Nb j w')) [0, 1, 2] 0
                  · kernel_rfl
                  · kernel_rfl
                  · kernel_rfl
                  · exact ⟨rfl, rfl, rfl, trivial⟩
                  · rfl
                  · decide
                  · exact D9
                  · intro z
                    dsimp only [pickL, nthO]
                    repeat (first | go_big_quiet_skip | (go_big_quiet_want; go_big_quiet_op; first | go_big_quiet_on | (refine ⟨_, fun _ _ => rfl, ?_⟩; go_big_quiet_on)))
                    go_big_quiet_want
                    go_big_quiet_op
                    refine ⟨.agg #[.int .i64 g, (.slice ra n rc), (.slice ma m mc)], fun w' hw' => ?_, ?_⟩
                    · have q0 := hw'.out.c.cell 0; have q1 := hw'.out.c.cell 1; have q2 := hw'.out.c.cell 2
                      simp at q0 q1 q2
                      simp [go_sem, q0, q1, q2]
                    go_big_quiet_on
                    repeat (first | go_big_quiet_skip | (go_big_quiet_want; go_big_quiet_op; first | go_big_quiet_on | (refine ⟨_, fun _ _ => rfl, ?_⟩; go_big_quiet_on)))
                    go_big_quiet_want
                    go_big_quiet_op
                    refine ⟨.agg #[(.slice s8 (la + 1) n8), .int .i64 QA, (.slice (some ⟨T9, 0, none⟩) lt ma9)], fun w' hw' => ?_, ?_⟩
                    · have q0 := hw'.out.a.box.cell 0; have q1 := hw'.out.a.box.cell 1; have q2 := hw'.out.a.box.cell 2
                      simp at q0 q1 q2
                      simp [go_sem, q0, q1, q2]
                    go_big_quiet_on
                    repeat (first | go_big_quiet_skip | (go_big_quiet_want; go_big_quiet_op; first | go_big_quiet_on | (refine ⟨_, fun _ _ => rfl, ?_⟩; go_big_quiet_on)))
                    go_big_quiet_want
                    go_big_quiet_op
                    refine ⟨.agg #[(.slice sb lb nb), .int .i64 QB, (.slice tb lu mb9)], fun w' hw' => ?_, ?_⟩
                    · have q0 := hw'.out.b.box.cell 0; have q1 := hw'.out.b.box.cell 1; have q2 := hw'.out.b.box.cell 2
                      simp at q0 q1 q2
                      simp [go_sem, q0, q1, q2]
                    go_big_quiet_on
                    repeat (first | go_big_quiet_skip | (go_big_quiet_want; go_big_quiet_op; first | go_big_quiet_on | (refine ⟨_, fun _ _ => rfl, ?_⟩; go_big_quiet_on)))
                    exact wpQuiet_nil rfl
                  · skip
                    refine wpAnyH_special (i := 3) (d := none) rfl (by kernel_rfl) rfl rfl (by kernel_rfl) fun we he => ?_
                    have r0 := he.out.z2.cell 0; have r1 := he.out.z2.cell 1; have r2 := he.out.z2.cell 2; have f0 := he.out.z2.frozen 0; have f1 := he.out.z2.frozen 1; have f2 := he.out.z2.frozen 2
                    simp at r0 r1 r2
                    refine ⟨undef, pt3 we w.heap.size (.int .i64 g) (.slice ra n rc) (.slice ma m mc), 1, .inr ⟨by simp [go_sem, pt3, r0, r1, r2, f0, f1, f2], rfl⟩, Lib.hid he.out.put2, ?_⟩
                    clear he r0 r1 r2 f0 f1 f2
                    refine wpAnyH_special (i := 4) (d := none) rfl (by kernel_rfl) rfl rfl (by kernel_rfl) fun we he => ?_
                    have r0 := he.out.z3.cell 0; have r1 := he.out.z3.cell 1; have r2 := he.out.z3.cell 2; have f0 := he.out.z3.frozen 0; have f1 := he.out.z3.frozen 1; have f2 := he.out.z3.frozen 2
                    simp at r0 r1 r2
                    refine ⟨undef, pt3 we (w.heap.size + 1) (.slice s8 (la + 1) n8) (.int .i64 QA) (.slice (some ⟨T9, 0, none⟩) lt ma9), 2, .inr ⟨by simp [go_sem, pt3, r0, r1, r2, f0, f1, f2], rfl⟩, Lib.hid he.out.put3, ?_⟩
                    clear he r0 r1 r2 f0 f1 f2
                    refine wpAnyH_special (i := 5) (d := none) rfl (by kernel_rfl) rfl rfl (by kernel_rfl) fun we he => ?_
                    have r0 := he.out.z4.cell 0; have r1 := he.out.z4.cell 1; have r2 := he.out.z4.cell 2; have f0 := he.out.z4.frozen 0; have f1 := he.out.z4.frozen 1; have f2 := he.out.z4.frozen 2
                    simp at r0 r1 r2
                    refine ⟨undef, pt3 we (w.heap.size + 2) (.slice sb lb nb) (.int .i64 QB) (.slice tb lu mb9), 3, .inr ⟨by simp [go_sem, pt3, r0, r1, r2, f0, f1, f2], rfl⟩, Lib.hid he.out.put4, ?_⟩
                    clear he r0 r1 r2 f0 f1 f2
                    refine ⟨by kernel_rfl, fun wz hz => ?_⟩
                    have r0 := hz.out.z2.cell 0; have r1 := hz.out.z2.cell 1; have r2 := hz.out.z2.cell 2; have s0 := hz.out.z3.cell 0; have s1 := hz.out.z3.cell 1; have s2 := hz.out.z3.cell 2; have t0 := hz.out.z4.cell 0; have t1 := hz.out.z4.cell 1; have t2 := hz.out.z4.cell 2
                    simp at r0 r1 r2 s0 s1 s2 t0 t1 t2
                    simp only [Act.put]
                    clear D9
                    go_wp2
                    refine bodyPost_ret (v := .tuple #[.agg #[.int .i64 g, (.slice ra n rc), (.slice ma m mc)], .agg #[(.slice s8 (la + 1) n8), .int .i64 QA, (.slice (some ⟨T9, 0, none⟩) lt ma9)], .agg #[(.slice sb lb nb), .int .i64 QB, (.slice tb lu mb9)]]) ?_ rfl ?_
                    · simp [results, Tryd.results40, go_sem, r0, r1, r2, s0, s1, s2, t0, t1, t2]
                    · exact ⟨g, _, _, _, QA, _, _, QB, _, rows, makes, (SA ++ [1]), (TA.set 0 x), SB, TB, rfl, fun w'' ha => ⟨(ST.out w'' (hz.out.ab.trans (ha.mono (by omega)))).1, ⟨Ints.of_own (own_heap hz.out.a.s fun b hb => ha.2 b (by have := (hz.out.a.s.lt b hb).1; omega) (hz.out.a.s.lt b hb).2) (by rw [List.length_append, HLA.out]; unfold maxLen; simp; omega), Ints.of_own (own_heap hz.out.a.t fun b hb => ha.2 b (by have := (hz.out.a.t.lt b hb).1; omega) (hz.out.a.t.lt b hb).2) (by rw [List.length_set, HLT.out]; unfold maxLen; omega)⟩, Ints.of_own (own_heap hz.out.b.s fun b hb => ha.2 b (by have := (hz.out.b.s.lt b hb).1; omega) (hz.out.b.s.lt b hb).2) (by rw [HLB.out]; unfold maxLen; omega), Ints.of_own (own_heap hz.out.b.t fun b hb => ha.2 b (by have := (hz.out.b.t.lt b hb).1; omega) (hz.out.b.t.lt b hb).2) (by rw [HLU.out]; unfold maxLen; omega)⟩, hz.out.gr⟩
end Go.Proofs.YtclihkcigppgjaaDoor
