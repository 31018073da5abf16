/- DrawSecretFrom: a group, a key and two talks. -/
import Derived.Test.YtopjlbihhbjhnabDoorDrawU
namespace Go.Proofs.YtopjlbihhbjhnabDoor
open Go.RowKit

def DrawSPost (w : World) (e : Ending) (w' : World) : Prop :=
  ∃ g key s1 a1 t1 s2 a2 t2 : Int, e = .returned (.tuple #[.int .i64 g, .int .i64 key, .agg #[.int .i64 s1, .int .i64 a1, .int .i64 t1], .agg #[.int .i64 s2, .int .i64 a2, .int .i64 t2]]) ∧ (-1 ≤ g ∧ g ≤ 4) ∧ Below w.heap.size w w'

set_option maxHeartbeats 1600000 in
theorem drawSecretFrom_any (s : Value) (w : World) (h : CodeIn w s) : Calls Tryd.prog 13 #[s] w (DrawSPost w) := by
  have X0 := Lib.hid ((Box.new w 0 0 0).alloc (.cells #[.int .i64 0, .int .i64 0, .int .i64 0] 24))
  have Y0 := Lib.hid (Box.new (w.alloc (.cells #[.int .i64 0, .int .i64 0, .int .i64 0] 24)) 0 0 0)
  have H := Lib.hid (code_alloc (code_alloc h (.cells #[.int .i64 0, .int .i64 0, .int .i64 0] 24)) (.cells #[.int .i64 0, .int .i64 0, .int .i64 0] 24)); clear h
  have Z0 : Below w.heap.size w ((w.alloc (.cells #[.int .i64 0, .int .i64 0, .int .i64 0] 24)).alloc (.cells #[.int .i64 0, .int .i64 0, .int .i64 0] 24)) := (below_alloc w _).alloc (by simp) _
  rw [World.size_alloc] at Y0
  go_enter Tryd.func13, Tryd.ntmps13
  go_wp2_with fail
  refine (open_any _ _ H.out).mono ?_
  rintro e w1 ⟨rfl, H1, hb1⟩
  rw [World.size_alloc, World.size_alloc] at H1 hb1 ⊢
  have RD1 := Lib.hid H1; clear H1
  have X1 := Lib.hid (X0.out.grown (grown_below (w.heap.size + 1 + 1) (by have := hb1; simpa using this)) (by omega))
  have Y1 := Lib.hid (Y0.out.grown (grown_below (w.heap.size + 1 + 1) (by have := hb1; simpa using this)) (by omega))
  have B1 := Lib.hid (Z0.trans (hb1.mono (by omega)))
  have hs1 : w.heap.size ≤ w1.heap.size := by have := hb1.size; simp at this; omega
  clear hb1 Z0
  go_wp2_with fail
  refine (drawgroup_any _ _ _ _ RD1.out (by omega) (by omega) (by omega)).mono ?_
  rintro e w2 ⟨g, rfl, l1, u1, hg, k2, hk2, hr⟩
  have RD2 := Lib.hid hr
  have X2 := Lib.hid (X1.out.grown hg (by omega))
  have Y2 := Lib.hid (Y1.out.grown hg (by omega))
  have B2 := Lib.hid (below_of_grown B1.out hg hs1 (by omega))
  have hs2 := Nat.le_trans hs1 hg.size
  clear hg hr
  go_wp2_with fail
  refine (drawexp0_any _ _ _ _ RD2.out (by omega)).mono ?_
  rintro e w3 ⟨secret, rfl, l2, u2, hg, k3, hk3, hr⟩
  have RD3 := Lib.hid hr
  have X3 := Lib.hid (X2.out.grown hg (by omega))
  have Y3 := Lib.hid (Y2.out.grown hg (by omega))
  have B3 := Lib.hid (below_of_grown B2.out hg hs2 (by omega))
  have hs3 := Nat.le_trans hs2 hg.size
  clear hg hr
  go_wp2_with fail
  refine (drawexp0_any _ _ _ _ RD3.out (by omega)).mono ?_
  rintro e w4 ⟨further, rfl, l3, u3, hg, k4, hk4, hr⟩
  have RD4 := Lib.hid hr
  have X4 := Lib.hid (X3.out.grown hg (by omega))
  have Y4 := Lib.hid (Y3.out.grown hg (by omega))
  have B4 := Lib.hid (below_of_grown B3.out hg hs3 (by omega))
  have hs4 := Nat.le_trans hs3 hg.size
  clear hg hr
  go_wp2_with fail
  refine (drawexp0_any _ _ _ _ RD4.out (by omega)).mono ?_
  rintro e w5 ⟨ask1, rfl, l4, u4, hg, k5, hk5, hr⟩
  have RD5 := Lib.hid hr
  have X5 := Lib.hid (X4.out.grown hg (by omega))
  have Y5 := Lib.hid (Y4.out.grown hg (by omega))
  have B5 := Lib.hid (below_of_grown B4.out hg hs4 (by omega))
  have hs5 := Nat.le_trans hs4 hg.size
  clear hg hr
  go_wp2_with fail
  refine (stalk_some _ _ _ _ _).mono ?_
  rintro e w6 ⟨p, q, r, b1, rfl, ⟨p0, p1⟩, ⟨q0, q1⟩, ⟨r0, r1⟩, hb⟩
  have hg := grown_below (w.heap.size + 1 + 1) hb
  have RD6 := Lib.hid (RD5.out.below hb)
  have X6 := Lib.hid (X5.out.grown hg (by omega))
  have Y6 := Lib.hid (Y5.out.grown hg (by omega))
  have B6 := Lib.hid (below_of_grown B5.out hg hs5 (by omega))
  have hs6 := Nat.le_trans hs5 hg.size
  clear hg hb
  go_wp2_with fail
  obtain ⟨w7, hw⟩ : ∃ wz, wz = w6.alloc (.cells #[.int .i64 p, .int .i64 q, .int .i64 r] 24) := ⟨_, rfl⟩
  have hg : w6.grownBy w7 (some (w.heap.size + 1 + 1)) := by rw [hw]; exact World.grownBy_alloc _ _ _
  have RD7 : Hid (Rd w7 (w.heap.size + 1 + 1) k5) := Lib.hid (by rw [hw]; exact RD6.out.below (below_alloc _ _))
  have A7 : Hid (Box w7 w6.heap.size p q r) := Lib.hid (by rw [hw]; exact Box.new _ _ _ _)
  have nA : w.heap.size + 2 < w6.heap.size := by have := RD6.out.lt; omega
  have X7 := Lib.hid (X6.out.grown hg (by omega))
  have Y7 := Lib.hid (Y6.out.grown hg (by omega))
  have B7 := Lib.hid (below_of_grown B6.out hg hs6 (by omega))
  have hs7 := Nat.le_trans hs6 hg.size
  rw [← hw]
  clear hg hw
  have hkk : k5 ≤ 8 := by omega
  go_wp2_with fail
  refine (drawexp0_any _ _ _ _ RD7.out (by omega)).mono ?_
  rintro e w8 ⟨ask2, rfl, l7, u7, hg, k8, hk8, hr⟩
  have RD8 := Lib.hid hr
  have X8 := Lib.hid (X7.out.grown hg (by omega))
  have Y8 := Lib.hid (Y7.out.grown hg (by omega))
  have A8 := Lib.hid (A7.out.grown hg (by omega))
  have B8 := Lib.hid (below_of_grown B7.out hg hs7 (by omega))
  have hs8 := Nat.le_trans hs7 hg.size
  clear hg hr
  go_wp2_with fail
  refine (stalk_some _ _ _ _ _).mono ?_
  rintro e w9 ⟨x, y, z, b2, rfl, ⟨x0, x1⟩, ⟨y0, y1⟩, ⟨z0, z1⟩, hb⟩
  have hg := grown_below (w.heap.size + 1 + 1) hb
  have RD9 := Lib.hid (RD8.out.below hb)
  have X9 := Lib.hid (X8.out.grown hg (by omega))
  have Y9 := Lib.hid (Y8.out.grown hg (by omega))
  have A9 := Lib.hid (A8.out.grown hg (by omega))
  have B9 := Lib.hid (below_of_grown B8.out hg hs8 (by omega))
  have hs9 := Nat.le_trans hs8 hg.size
  clear hg hb
  go_wp2_with fail
  obtain ⟨w10, hw⟩ : ∃ wz, wz = w9.alloc (.cells #[.int .i64 x, .int .i64 y, .int .i64 z] 24) := ⟨_, rfl⟩
  have hg : w9.grownBy w10 (some (w.heap.size + 1 + 1)) := by rw [hw]; exact World.grownBy_alloc _ _ _
  have RD10 : Hid (Rd w10 (w.heap.size + 1 + 1) k8) := Lib.hid (by rw [hw]; exact RD9.out.below (below_alloc _ _))
  have C10 : Hid (Box w10 w9.heap.size x y z) := Lib.hid (by rw [hw]; exact Box.new _ _ _ _)
  have nC : w.heap.size + 2 < w9.heap.size := by have := RD9.out.lt; omega
  have X10 := Lib.hid (X9.out.grown hg (by omega))
  have Y10 := Lib.hid (Y9.out.grown hg (by omega))
  have A10 := Lib.hid (A9.out.grown hg (by omega))
  have B10 := Lib.hid (below_of_grown B9.out hg hs9 (by omega))
  have hs10 := Nat.le_trans hs9 hg.size
  rw [← hw]
  clear hg hw
  have nAC : w6.heap.size ≠ w9.heap.size := by have := A9.out.lt; omega
  have hk8 : k8 ≤ 20 := by omega
  go_wp2_with fail
  refine (odd_any _ _ _ _ RD10.out (by omega) (by omega) (by omega)).mono ?_
  rintro e w11 ⟨b9, rfl, m11, hw⟩
  have hg : w10.grownBy w11 (some (w.heap.size + 1 + 1)) := by rw [hw]; exact grown_pick _ _ _ _
  have RD11 : Hid (Rd w11 (w.heap.size + 1 + 1) (k8 + 1)) := Lib.hid (by rw [hw]; exact RD10.out.next m11)
  have X11 := Lib.hid (X10.out.grown hg (by omega))
  have Y11 := Lib.hid (Y10.out.grown hg (by omega))
  have A11 := Lib.hid (A10.out.grown hg (by omega))
  have C11 := Lib.hid (C10.out.grown hg (by omega))
  have B11 := Lib.hid (below_of_grown B10.out hg hs10 (by omega))
  have hs11 := Nat.le_trans hs10 hg.size
  clear hg hw
  cases b9
  · have hsf := hs11
    go_wp2_with fail
    obtain ⟨⟨c0, c1, c2⟩, _⟩ := Box.cells A11.out
    obtain ⟨⟨d0, d1, d2⟩, _⟩ := Box.cells C11.out
    go_region_with (go_at_call 56; refine (skey_any _ _ _).mono ?_; rintro e wk ⟨rfl, hb⟩; have hbk : Below w11.heap.size w11 wk := Below.trans (Below.drew (Below.refl _ w11)) hb; have hgk := grown_below (w.heap.size + 1 + 1) hbk; have Ak := Lib.hid (A11.out.grown hgk (by omega)); have Ck := Lib.hid (C11.out.grown hgk (by omega)); have Xk := Lib.hid (X11.out.grown hgk (by omega)); have Yk := Lib.hid (Y11.out.grown hgk (by omega)); have Bk := Lib.hid (B11.out.trans (hbk.mono hsf)); clear hb hbk hgk; (obtain ⟨⟨a0, a1, a2⟩, _⟩ := Box.cells Ak.out); (obtain ⟨⟨e0, e1, e2⟩, _⟩ := Box.cells Ck.out); (obtain ⟨⟨x0', x1', x2'⟩, fx0, fx1, fx2⟩ := Box.cells Xk.out); (obtain ⟨⟨y0', y1', y2'⟩, fy0, fy1, fy2⟩ := Box.cells Yk.out))
    all_goals
      go_wp2
      refine bodyPost_ret (v := .tuple #[.int .i64 g, .int .i64 (keyOf g secret), .agg #[.int .i64 p, .int .i64 q, .int .i64 r], .agg #[.int .i64 x, .int .i64 y, .int .i64 (z)]]) ?_ rfl ⟨_, _, _, _, _, _, _, _, rfl, ⟨by omega, by omega⟩, (((((Bk.out.setCell (Nat.le_refl _) _).setCell (Nat.le_refl _) _).setCell (Nat.le_refl _) _).setCell (Nat.le_succ _) _).setCell (Nat.le_succ _) _).setCell (Nat.le_succ _) _⟩
      simp [results, Tryd.results13, go_sem, x0', x1', x2', y0', y1', y2']
  · go_wp2_with fail
    refine (drawexp_any _ _ _ _ _ RD11.out (by omega) (by omega) (by omega)).mono ?_
    rintro e w12 ⟨z', rfl, l11, u11, hg, k12, hk12, hr⟩
    have X12 := Lib.hid (X11.out.grown hg (by omega))
    have Y12 := Lib.hid (Y11.out.grown hg (by omega))
    have A12 := Lib.hid (A11.out.grown hg (by omega))
    have C12 := Lib.hid (C11.out.grown hg (by omega))
    have B12 := Lib.hid (below_of_grown B11.out hg hs11 (by omega))
    have hs12 := Nat.le_trans hs11 hg.size
    clear hg hr
    obtain ⟨⟨d0, d1, d2⟩, f0, f1, f2⟩ := Box.cells C12.out
    go_wp2_with fail
    obtain ⟨w13, hw⟩ : ∃ wz, wz = w12.setCell ⟨w9.heap.size, 2, none⟩ (.int .i64 z') := ⟨_, rfl⟩
    rw [← hw]
    have C13 := Lib.hid (C12.out.set2 z')
    have A13 := Lib.hid (A12.out.far nAC (o := 2) (.int .i64 z'))
    have X13 := Lib.hid (X12.out.far (show w.heap.size ≠ w9.heap.size by omega) (o := 2) (.int .i64 z'))
    have Y13 := Lib.hid (Y12.out.far (show w.heap.size + 1 ≠ w9.heap.size by omega) (o := 2) (.int .i64 z'))
    have B13 := Lib.hid (B12.out.setCell (p := ⟨w9.heap.size, 2, none⟩) (show w.heap.size ≤ w9.heap.size by omega) (.int .i64 z'))
    have hs13 : w.heap.size ≤ (w12.setCell ⟨w9.heap.size, 2, none⟩ (.int .i64 z')).heap.size := by simpa [World.setCell] using hs12
    rw [← hw] at C13 A13 X13 Y13 B13 hs13
    clear hw d0 d1 d2 f0 f1 f2
    have hsf := hs13
    obtain ⟨⟨c0, c1, c2⟩, _⟩ := Box.cells A13.out
    obtain ⟨⟨d0, d1, d2⟩, _⟩ := Box.cells C13.out
    go_region_with (go_at_call 56; refine (skey_any _ _ _).mono ?_; rintro e wk ⟨rfl, hb⟩; have hbk : Below w13.heap.size w13 wk := Below.trans (Below.drew (Below.refl _ w13)) hb; have hgk := grown_below (w.heap.size + 1 + 1) hbk; have Ak := Lib.hid (A13.out.grown hgk (by omega)); have Ck := Lib.hid (C13.out.grown hgk (by omega)); have Xk := Lib.hid (X13.out.grown hgk (by omega)); have Yk := Lib.hid (Y13.out.grown hgk (by omega)); have Bk := Lib.hid (B13.out.trans (hbk.mono hsf)); clear hb hbk hgk; (obtain ⟨⟨a0, a1, a2⟩, _⟩ := Box.cells Ak.out); (obtain ⟨⟨e0, e1, e2⟩, _⟩ := Box.cells Ck.out); (obtain ⟨⟨x0', x1', x2'⟩, fx0, fx1, fx2⟩ := Box.cells Xk.out); (obtain ⟨⟨y0', y1', y2'⟩, fy0, fy1, fy2⟩ := Box.cells Yk.out))
    all_goals
      go_wp2
      refine bodyPost_ret (v := .tuple #[.int .i64 g, .int .i64 (keyOf g secret), .agg #[.int .i64 p, .int .i64 q, .int .i64 r], .agg #[.int .i64 x, .int .i64 y, .int .i64 (z')]]) ?_ rfl ⟨_, _, _, _, _, _, _, _, rfl, ⟨by omega, by omega⟩, (((((Bk.out.setCell (Nat.le_refl _) _).setCell (Nat.le_refl _) _).setCell (Nat.le_refl _) _).setCell (Nat.le_succ _) _).setCell (Nat.le_succ _) _).setCell (Nat.le_succ _) _⟩
      simp [results, Tryd.results13, go_sem, x0', x1', x2', y0', y1', y2']

end Go.Proofs.YtopjlbihhbjhnabDoor
