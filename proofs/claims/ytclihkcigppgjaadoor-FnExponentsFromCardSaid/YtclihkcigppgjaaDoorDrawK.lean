/- The draws of a relation with one talk, and with two. -/
import Derived.Test.YtclihkcigppgjaaDoorDrawJ
import Derived.Test.YtclihkcigppgjaaDoorDrawF
import Derived.Deep.Cut
namespace Go.Proofs.YtclihkcigppgjaaDoor
open Go.RowKit

theorem above_pt3 {M N : Nat} {w : World} {x y z : Value} (h : N < M) : Above M w (pt3 w N x y z) := by
  have h1 : Above M w (w.setCell ⟨N, 0, none⟩ x) := Above.set (by omega) x
  have h2 : Above M (w.setCell ⟨N, 0, none⟩ x) ((w.setCell ⟨N, 0, none⟩ x).setCell ⟨N, 1, none⟩ y) := Above.set (by omega) y
  have h3 : Above M ((w.setCell ⟨N, 0, none⟩ x).setCell ⟨N, 1, none⟩ y) (((w.setCell ⟨N, 0, none⟩ x).setCell ⟨N, 1, none⟩ y).setCell ⟨N, 2, none⟩ z) := Above.set (by omega) z
  exact h1.trans (h2.trans h3)
theorem below_pt3 {B N : Nat} {w w' : World} {x y z : Value} (hb : Below B w w') (h : B ≤ N) : Below B w (pt3 w' N x y z) :=
  ((hb.setCell (p := ⟨N, 0, none⟩) h x).setCell (p := ⟨N, 1, none⟩) h y).setCell (p := ⟨N, 2, none⟩) h z
def DrawC2Post (w : World) (e : Ending) (w' : World) : Prop :=
  ∃ (g : Int) (rv mv sv : Value) (q : Int) (tv sv2 : Value) (q2 : Int) (tv2 : Value) (rows : List (List Int)) (makes ss ts ss2 ts2 : List Int), e = .returned (.tuple #[.agg #[.int .i64 g, rv, mv], .agg #[sv, .int .i64 q, tv], .agg #[sv2, .int .i64 q2, tv2]]) ∧
    Cw w' rv mv rows makes ∧ (Ints w' sv ss ∧ Ints w' tv ts) ∧ (Ints w' sv2 ss2 ∧ Ints w' tv2 ts2) ∧ Below w.heap.size w w'
def DrawC1Post (w : World) (e : Ending) (w' : World) : Prop :=
  ∃ (g : Int) (rv mv sv : Value) (q : Int) (tv : Value) (rows : List (List Int)) (makes ss ts : List Int), e = .returned (.tuple #[.agg #[.int .i64 g, rv, mv], .agg #[sv, .int .i64 q, tv]]) ∧
    Cw w' rv mv rows makes ∧ (Ints w' sv ss ∧ Ints w' tv ts) ∧ Below w.heap.size w w'

set_option maxRecDepth 20000 in
set_option maxHeartbeats 1600000 in
theorem drawExponentsFrom_any (s : Value) (w : World) (h : CodeIn w s) : Calls Tryd.prog 16 #[s] w (DrawC2Post w) := by
  have H := Lib.hid (code_grow (code_grow (code_grow h (.cells #[.int .i64 0, .slice none 0 0, .slice none 0 0] 26)) (.cells #[.slice none 0 0, .int .i64 0, .slice none 0 0] 28)) (.cells #[.slice none 0 0, .int .i64 0, .slice none 0 0] 28))
  obtain ⟨W0, hW0⟩ : ∃ W, W = ((w.alloc (.cells #[.int .i64 0, .slice none 0 0, .slice none 0 0] 26)).alloc (.cells #[.slice none 0 0, .int .i64 0, .slice none 0 0] 28)).alloc (.cells #[.slice none 0 0, .int .i64 0, .slice none 0 0] 28) := ⟨_, rfl⟩
  have hs0 : W0.heap.size = w.heap.size + 3 := by rw [hW0]; simp
  have hb0 : Below w.heap.size w W0 := by rw [hW0]; exact ((below_grow w _).alloc (by simp) _).alloc (by simp; omega) _
  have z0 : Hid (Box W0 w.heap.size [.int .i64 0, .slice none 0 0, .slice none 0 0]) := Lib.hid (by rw [hW0]; exact ((Box.made w _ _).alloc _).alloc _)
  have z1 : Hid (Box W0 (w.heap.size + 1) [.slice none 0 0, .int .i64 0, .slice none 0 0]) := Lib.hid (by rw [hW0]; have := (Box.made (w.alloc (.cells #[.int .i64 0, .slice none 0 0, .slice none 0 0] 26)) [.slice none 0 0, .int .i64 0, .slice none 0 0] 28).alloc (.cells #[.slice none 0 0, .int .i64 0, .slice none 0 0] 28); simpa using this)
  have z2 : Hid (Box W0 (w.heap.size + 2) [.slice none 0 0, .int .i64 0, .slice none 0 0]) := Lib.hid (by rw [hW0]; have := Box.made ((w.alloc (.cells #[.int .i64 0, .slice none 0 0, .slice none 0 0] 26)).alloc (.cells #[.slice none 0 0, .int .i64 0, .slice none 0 0] 28)) [.slice none 0 0, .int .i64 0, .slice none 0 0] 28; simpa using this)
  have HS0 := Lib.hid hs0
  have HB0 := Lib.hid hb0
  clear h hb0
  go_enter Tryd.func16, Tryd.ntmps16
  go_wp2_with fail
  rw [← hW0] at H ⊢
  clear hW0 hs0
  refine (open_any _ _ H.out).mono ?_
  rintro e w1 ⟨rfl, H1, hb1⟩
  rw [HS0.out] at H1 hb1 ⊢
  have hb1' : Below W0.heap.size W0 w1 := by rw [HS0.out]; exact hb1
  have RD1 := Lib.hid H1
  have X0 := Lib.hid (z0.out.on hb1'); have X1 := Lib.hid (z1.out.on hb1'); have X2 := Lib.hid (z2.out.on hb1')
  have B1 := Lib.hid (HB0.out.trans (hb1'.mono (by have := HS0.out; omega)))
  clear H1 hb1 hb1' z0 z1 z2 HB0 H
  go_wp2_with fail
  refine (drawwf_any _ 0 _ RD1.out (by omega)).mono ?_
  rintro e w2 ⟨g, rv, mv, sv, q, tv, sv2, q2, tv2, rows, makes, ss, ts, ss2, ts2, rfl, hst, hg⟩
  obtain ⟨ra, rc, e1, _⟩ := (hst _ (Above.refl _ _)).1.rows.opened
  obtain ⟨ma, mc, e2, _⟩ := (hst _ (Above.refl _ _)).1.makes.opened
  obtain ⟨sa, sc, e3, _⟩ := (hst _ (Above.refl _ _)).2.1.1.opened
  obtain ⟨ta, tc, e4, _⟩ := (hst _ (Above.refl _ _)).2.1.2.opened
  obtain ⟨sb, sd, e5, _⟩ := (hst _ (Above.refl _ _)).2.2.1.opened
  obtain ⟨tb, td, e6, _⟩ := (hst _ (Above.refl _ _)).2.2.2.opened
  subst e1 e2 e3 e4 e5 e6
  have hlt := RD1.out.lt
  have Y0 := X0.out.kept (hg.block _ X0.out.lt (fun e => by simp at e)); have Y1 := X1.out.kept (hg.block _ X1.out.lt (fun e => by simp at e)); have Y2 := X2.out.kept (hg.block _ X2.out.lt (fun e => by simp at e))
  have D2 := Lib.hid (show (∀ w'', Above (w.heap.size + 3) w2 w'' → Cw w'' (.slice ra rows.length rc) (.slice ma makes.length mc) rows makes ∧ (Ints w'' (.slice sa ss.length sc) ss ∧ Ints w'' (.slice ta ts.length tc) ts) ∧ Ints w'' (.slice sb ss2.length sd) ss2 ∧ Ints w'' (.slice tb ts2.length td) ts2) ∧ Below w.heap.size w w2 from ⟨hst, below_of_grown B1.out hg (by omega) (by omega)⟩)
  have r0 := Y0.cell 0; have r1 := Y0.cell 1; have r2 := Y0.cell 2
  have s0 := Y1.cell 0; have s1 := Y1.cell 1; have s2 := Y1.cell 2
  have t0 := Y2.cell 0; have t1 := Y2.cell 1; have t2 := Y2.cell 2
  have f0 := Y0.frozen 0; have f1 := Y0.frozen 1; have f2 := Y0.frozen 2
  have g0 := Y1.frozen 0; have g1 := Y1.frozen 1; have g2 := Y1.frozen 2
  have h0 := Y2.frozen 0; have h1 := Y2.frozen 1; have h2 := Y2.frozen 2
  simp at r0 r1 r2 s0 s1 s2 t0 t1 t2
  clear Y0 Y1 Y2 X0 X1 X2 B1 RD1 hst hg hlt
  go_wp2
  refine bodyPost_ret (v := .tuple #[.agg #[.int .i64 g, (.slice ra rows.length rc), (.slice ma makes.length mc)], .agg #[(.slice sa ss.length sc), .int .i64 q, (.slice ta ts.length tc)], .agg #[(.slice sb ss2.length sd), .int .i64 q2, (.slice tb ts2.length td)]]) ?_ rfl ?_
  · simp [results, Tryd.results16, go_sem, r0, r1, r2, s0, s1, s2, t0, t1, t2]
  · have ha : Above (w.heap.size + 3) w2 (pt3 (pt3 (pt3 w2 w.heap.size (.int .i64 g) (.slice ra rows.length rc) (.slice ma makes.length mc)) (w.heap.size + 1) (.slice sa ss.length sc) (.int .i64 q) (.slice ta ts.length tc)) (w.heap.size + 2) (.slice sb ss2.length sd) (.int .i64 q2) (.slice tb ts2.length td)) := (above_pt3 (by omega)).trans ((above_pt3 (by omega)).trans (above_pt3 (by omega)))
    have hb : Below w.heap.size w (pt3 (pt3 (pt3 w2 w.heap.size (.int .i64 g) (.slice ra rows.length rc) (.slice ma makes.length mc)) (w.heap.size + 1) (.slice sa ss.length sc) (.int .i64 q) (.slice ta ts.length tc)) (w.heap.size + 2) (.slice sb ss2.length sd) (.int .i64 q2) (.slice tb ts2.length td)) := below_pt3 (below_pt3 (below_pt3 D2.out.2 (by omega)) (by omega)) (by omega)
    obtain ⟨c1, c2, c3⟩ := D2.out.1 _ ha
    exact ⟨g, _, _, _, q, _, _, q2, _, rows, makes, ss, ts, ss2, ts2, rfl, c1, c2, c3, hb⟩

/-- In the region of the answer: how many results are written. -/
structure Q5 (w v : World) (P A : List Value) (j : Nat) (w' : World) : Prop where
  ab : Above (w.heap.size + 2) v w'
  bl : Below w.heap.size w w'
  z1 : Box w' w.heap.size (if 1 ≤ j then P else [.int .i64 0, .slice none 0 0, .slice none 0 0])
  z2 : Box w' (w.heap.size + 1) (if 2 ≤ j then A else [.slice none 0 0, .int .i64 0, .slice none 0 0])
section
variable {w v w' : World} {P A : List Value} {j : Nat}
theorem Q5.on {w3 : World} (h : Q5 w v P A j w') (hb : Below w'.heap.size w' w3) : Q5 w v P A j w3 := ⟨h.ab.trans (Above.below hb), Below.on h.bl hb, h.z1.on hb, h.z2.on hb⟩
theorem Q5.put1 {x y z : Value} (h : Q5 w v [x, y, z] A 0 w') : Q5 w v [x, y, z] A 1 (pt3 w' w.heap.size x y z) := ⟨h.ab.trans (above_pt3 (by omega)), below_pt3 h.bl (by omega), pt3_box h.z1, h.z2.kept (pt3_block _ _ _ _ _ (by omega))⟩
theorem Q5.put2 {x y z : Value} (h : Q5 w v P [x, y, z] 1 w') : Q5 w v P [x, y, z] 2 (pt3 w' (w.heap.size + 1) x y z) := ⟨h.ab.trans (above_pt3 (by omega)), below_pt3 h.bl (by omega), h.z1.kept (pt3_block _ _ _ _ _ (by omega)), pt3_box h.z2⟩
end

set_option maxRecDepth 20000 in
set_option maxHeartbeats 1600000 in
theorem drawWordsOk_any (s : Value) (w : World) (h : CodeIn w s) : Calls Tryd.prog 10 #[s] w (DrawC1Post w) := by
  have H := Lib.hid (code_grow (code_grow h (.cells #[.int .i64 0, .slice none 0 0, .slice none 0 0] 26)) (.cells #[.slice none 0 0, .int .i64 0, .slice none 0 0] 28))
  obtain ⟨W0, hW0⟩ : ∃ W, W = (w.alloc (.cells #[.int .i64 0, .slice none 0 0, .slice none 0 0] 26)).alloc (.cells #[.slice none 0 0, .int .i64 0, .slice none 0 0] 28) := ⟨_, rfl⟩
  have hs0 : W0.heap.size = w.heap.size + 2 := by rw [hW0]; simp
  have hb0 : Below w.heap.size w W0 := by rw [hW0]; exact (below_grow w _).alloc (by simp) _
  have z0 : Hid (Box W0 w.heap.size [.int .i64 0, .slice none 0 0, .slice none 0 0]) := Lib.hid (by rw [hW0]; exact (Box.made w _ _).alloc _)
  have z1 : Hid (Box W0 (w.heap.size + 1) [.slice none 0 0, .int .i64 0, .slice none 0 0]) := Lib.hid (by rw [hW0]; have := Box.made (w.alloc (.cells #[.int .i64 0, .slice none 0 0, .slice none 0 0] 26)) [.slice none 0 0, .int .i64 0, .slice none 0 0] 28; simpa using this)
  have HS0 := Lib.hid hs0
  have HB0 := Lib.hid hb0
  clear h hb0
  go_enter Tryd.func10, Tryd.ntmps10
  go_wp2_with fail
  rw [← hW0] at H ⊢
  clear hW0 hs0
  refine (open_any _ _ H.out).mono ?_
  rintro e w1 ⟨rfl, H1, hb1⟩
  rw [HS0.out] at H1 hb1 ⊢
  have hb1' : Below W0.heap.size W0 w1 := by rw [HS0.out]; exact hb1
  have RD1 := Lib.hid H1
  have X0 := Lib.hid (z0.out.on hb1'); have X1 := Lib.hid (z1.out.on hb1')
  have B1 := Lib.hid (HB0.out.trans (hb1'.mono (by have := HS0.out; omega)))
  clear H1 hb1 hb1' z0 z1 HB0 H
  go_wp2_with fail
  refine (drawwf_any _ 0 _ RD1.out (by omega)).mono ?_
  rintro e w2 ⟨g, rv, mv, sv, q, tv, sv2, q2, tv2, rows, makes, ss, ts, ss2, ts2, rfl, hst, hg⟩
  obtain ⟨ra, rc, e1, _⟩ := (hst _ (Above.refl _ _)).1.rows.opened
  obtain ⟨ma, mc, e2, _⟩ := (hst _ (Above.refl _ _)).1.makes.opened
  obtain ⟨sa, sc, e3, _⟩ := (hst _ (Above.refl _ _)).2.1.1.opened
  obtain ⟨ta, tc, e4, _⟩ := (hst _ (Above.refl _ _)).2.1.2.opened
  obtain ⟨sb, sd, e5, _⟩ := (hst _ (Above.refl _ _)).2.2.1.opened
  obtain ⟨tb, td, e6, _⟩ := (hst _ (Above.refl _ _)).2.2.2.opened
  subst e1 e2 e3 e4 e5 e6
  have hlt := RD1.out.lt
  have hgs := hg.size
  obtain ⟨v, hv⟩ : ∃ v, v = ((w2.alloc (.cells #[.int .i64 g, (.slice ra rows.length rc), (.slice ma makes.length mc)] 26)).alloc (.cells #[(.slice sa ss.length sc), .int .i64 q, (.slice ta ts.length tc)] 28)).alloc (.cells #[(.slice sb ss2.length sd), .int .i64 q2, (.slice tb ts2.length td)] 28) := ⟨_, rfl⟩
  have hbv : Below w2.heap.size w2 v := by rw [hv]; exact ((below_grow w2 _).alloc (by simp) _).alloc (by simp; omega) _
  have xc : Hid (Box v w2.heap.size [.int .i64 g, (.slice ra rows.length rc), (.slice ma makes.length mc)]) := Lib.hid (by rw [hv]; exact ((Box.made w2 _ _).alloc _).alloc _)
  have xa : Hid (Box v (w2.heap.size + 1) [(.slice sa ss.length sc), .int .i64 q, (.slice ta ts.length tc)]) := Lib.hid (by rw [hv]; have := (Box.made (w2.alloc (.cells #[.int .i64 g, (.slice ra rows.length rc), (.slice ma makes.length mc)] 26)) [(.slice sa ss.length sc), .int .i64 q, (.slice ta ts.length tc)] 28).alloc (.cells #[(.slice sb ss2.length sd), .int .i64 q2, (.slice tb ts2.length td)] 28); simpa using this)
  have D2 := Lib.hid (show ∀ w'', Above (w.heap.size + 2) v w'' → Cw w'' (.slice ra rows.length rc) (.slice ma makes.length mc) rows makes ∧ (Ints w'' (.slice sa ss.length sc) ss ∧ Ints w'' (.slice ta ts.length tc) ts) from fun w'' ha => by
    obtain ⟨c1, c2, _⟩ := hst w'' ((Above.below hbv).trans ha)
    exact ⟨c1, c2⟩)
  have XC := Lib.hid (show ∀ w'', Above (w.heap.size + 2) v w'' → Box w'' w2.heap.size [.int .i64 g, (.slice ra rows.length rc), (.slice ma makes.length mc)] ∧ Box w'' (w2.heap.size + 1) [(.slice sa ss.length sc), .int .i64 q, (.slice ta ts.length tc)] from fun w'' ha => ⟨xc.out.kept (ha.2 _ (by omega) xc.out.lt), xa.out.kept (ha.2 _ (by omega) xa.out.lt)⟩)
  have QV : Hid (Q5 w v [.int .i64 g, (.slice ra rows.length rc), (.slice ma makes.length mc)] [(.slice sa ss.length sc), .int .i64 q, (.slice ta ts.length tc)] 0 v) := Lib.hid ⟨Above.refl _ _, Below.on (below_of_grown B1.out hg (by omega) (by omega)) hbv, (X0.out.kept (hg.block _ X0.out.lt (fun e => by simp at e))).on hbv, (X1.out.kept (hg.block _ X1.out.lt (fun e => by simp at e))).on hbv⟩
  clear X0 X1 B1 RD1 hst hg hlt xc xa hbv
  go_upto_region 2 with (fail)
  rw [← hv]
  clear hv
  go_wp2_with fail
  apply wp_region_H (Z := Nat) (S := fun k => k == 2 || k == 3) (C := fun j w' => Hid (Q5 w v [.int .i64 g, (.slice ra rows.length rc), (.slice ma makes.length mc)] [(.slice sa ss.length sc), .int .i64 q, (.slice ta ts.length tc)] j w')) [0, 1] 0
  · kernel_rfl
  · kernel_rfl
  · kernel_rfl
  · exact ⟨rfl, rfl, trivial⟩
  · rfl
  · decide
  · exact Lib.hid (QV.out.on (Below.refl _ _).drew)
  · intro z
    dsimp only [pickL, nthO]
    repeat (first | go_big_quiet_skip | (go_big_quiet_want; go_big_quiet_op; first | go_big_quiet_on | (refine ⟨_, fun _ _ => rfl, ?_⟩; go_big_quiet_on)))
    go_big_quiet_want
    go_big_quiet_op
    refine ⟨.agg #[.int .i64 g, (.slice ra rows.length rc), (.slice ma makes.length mc)], fun w' hw' => ?_, ?_⟩
    · have q9 := (XC.out _ hw'.out.ab).1
      have q0 := q9.cell 0; have q1 := q9.cell 1; have q2 := q9.cell 2
      simp at q0 q1 q2
      simp [go_sem, q0, q1, q2]
    go_big_quiet_on
    repeat (first | go_big_quiet_skip | (go_big_quiet_want; go_big_quiet_op; first | go_big_quiet_on | (refine ⟨_, fun _ _ => rfl, ?_⟩; go_big_quiet_on)))
    go_big_quiet_want
    go_big_quiet_op
    refine ⟨.agg #[(.slice sa ss.length sc), .int .i64 q, (.slice ta ts.length tc)], fun w' hw' => ?_, ?_⟩
    · have q9 := (XC.out _ hw'.out.ab).2
      have q0 := q9.cell 0; have q1 := q9.cell 1; have q2 := q9.cell 2
      simp at q0 q1 q2
      simp [go_sem, q0, q1, q2]
    go_big_quiet_on
    repeat (first | go_big_quiet_skip | (go_big_quiet_want; go_big_quiet_op; first | go_big_quiet_on | (refine ⟨_, fun _ _ => rfl, ?_⟩; go_big_quiet_on)))
    exact wpQuiet_nil rfl
  · skip
    refine wpAnyH_special (i := 2) (d := none) rfl (by kernel_rfl) rfl rfl (by kernel_rfl) fun we he => ?_
    have r0 := he.out.z1.cell 0; have r1 := he.out.z1.cell 1; have r2 := he.out.z1.cell 2; have f0 := he.out.z1.frozen 0; have f1 := he.out.z1.frozen 1; have f2 := he.out.z1.frozen 2
    simp at r0 r1 r2
    refine ⟨undef, pt3 we w.heap.size (.int .i64 g) (.slice ra rows.length rc) (.slice ma makes.length mc), 1, .inr ⟨by simp [go_sem, pt3, r0, r1, r2, f0, f1, f2], rfl⟩, Lib.hid he.out.put1, ?_⟩
    clear he r0 r1 r2 f0 f1 f2
    refine wpAnyH_special (i := 3) (d := none) rfl (by kernel_rfl) rfl rfl (by kernel_rfl) fun we he => ?_
    have r0 := he.out.z2.cell 0; have r1 := he.out.z2.cell 1; have r2 := he.out.z2.cell 2; have f0 := he.out.z2.frozen 0; have f1 := he.out.z2.frozen 1; have f2 := he.out.z2.frozen 2
    simp at r0 r1 r2
    refine ⟨undef, pt3 we (w.heap.size + 1) (.slice sa ss.length sc) (.int .i64 q) (.slice ta ts.length tc), 2, .inr ⟨by simp [go_sem, pt3, r0, r1, r2, f0, f1, f2], rfl⟩, Lib.hid he.out.put2, ?_⟩
    clear he r0 r1 r2 f0 f1 f2
    refine ⟨by kernel_rfl, fun wz hz => ?_⟩
    have r0 := hz.out.z1.cell 0; have r1 := hz.out.z1.cell 1; have r2 := hz.out.z1.cell 2
    have s0 := hz.out.z2.cell 0; have s1 := hz.out.z2.cell 1; have s2 := hz.out.z2.cell 2
    simp at r0 r1 r2 s0 s1 s2
    simp only [Act.put]
    go_wp2
    refine bodyPost_ret (v := .tuple #[.agg #[.int .i64 g, (.slice ra rows.length rc), (.slice ma makes.length mc)], .agg #[(.slice sa ss.length sc), .int .i64 q, (.slice ta ts.length tc)]]) ?_ rfl ?_
    · simp [results, Tryd.results10, go_sem, r0, r1, r2, s0, s1, s2]
    · obtain ⟨c1, c2⟩ := D2.out _ hz.out.ab
      exact ⟨g, _, _, _, q, _, rows, makes, ss, ts, rfl, c1, c2, hz.out.bl⟩
end Go.Proofs.YtclihkcigppgjaaDoor
