/- l20Talk: a group, a key and a talk that is mostly right. -/
import Derived.Test.YtacaeoalplggfacDoorDrawT
namespace Go.Proofs.YtacaeoalplggfacDoor
open Go.RowKit

def TalkPost (R k d : Nat) (w : World) (e : Ending) (w' : World) : Prop :=
  ∃ g key s a t : Int, e = .returned (.tuple #[.int .i64 g, .int .i64 key, .agg #[.int .i64 s, .int .i64 a, .int .i64 t]]) ∧ (-1 ≤ g ∧ g ≤ 4) ∧ (-3 ≤ s ∧ s ≤ 47) ∧ (-1 ≤ a ∧ a ≤ 23) ∧ (0 ≤ t ∧ t ≤ 23) ∧ w.grownBy w' (some R) ∧ ∃ k', k' ≤ k + d ∧ Rd w' R k'

theorem grown_set {w a : World} {R N o : Nat} {x : Value} (h : w.grownBy a (some R)) (hN : w.heap.size ≤ N) : w.grownBy (a.setCell ⟨N, o, none⟩ x) (some R) :=
  ⟨h.os, h.tape, h.output, by have := h.size; simpa [World.setCell] using this, fun k hk hr => (Below.heap_setCell a ⟨N, o, none⟩ x k (by show k ≠ N; omega)).trans (h.block k hk hr)⟩
theorem Rd.set {a : World} {R k N o : Nat} {x : Value} (h : Rd a R k) (hN : R < N) : Rd (a.setCell ⟨N, o, none⟩ x) R k := by
  refine h.of_same (World.cell?_setCell_other a ⟨N, o, none⟩ ⟨R, 0, none⟩ x (by first | (simp; done) | (simp; omega))) ((World.cell?_setCell_other a ⟨N, o, none⟩ ⟨R, 1, none⟩ x (by first | (simp; done) | (simp; omega))).trans h.pos) ((World.frozen?_setCell a ⟨N, o, none⟩ ⟨R, 1, none⟩ x).trans h.free) (by simp [World.setCell]) (fun b o' hb => World.cell?_setCell_other a ⟨N, o, none⟩ ⟨b, o', none⟩ x (by first | (simp; done) | (simp; omega)))

set_option maxHeartbeats 1600000 in
theorem drawtalk_any (R k : Nat) (w : World) (h : Rd w R k) (hk : k ≤ 80000) : Calls Tryd.prog 22 #[.pointer (some ⟨R, 0, none⟩)] w (TalkPost R k 20 w) := by
  have hlt := h.lt
  have hN : w.heap.size ≠ R := by omega
  obtain ⟨k0, hk0⟩ : ∃ k0, k0 = k := ⟨k, rfl⟩
  have hk0' : k0 ≤ k := by omega
  have RD0 : Hid (Rd (w.alloc (.cells #[.int .i64 0, .int .i64 0, .int .i64 0] 24)) R k0) := Lib.hid (by rw [hk0]; exact h.below (below_alloc _ _))
  have X0 := Lib.hid (Box.new w 0 0 0)
  have G0 : Hid (w.grownBy (w.alloc (.cells #[.int .i64 0, .int .i64 0, .int .i64 0] 24)) (some R)) := Lib.hid (World.grownBy_alloc _ _ _)
  have hk00 : k0 ≤ 80000 := by omega
  clear h hk0
  go_enter Tryd.func22, Tryd.ntmps22
  go_wp2_with fail
  refine (drawgroup_any R k0 _ _ RD0.out (by omega) (by omega) (by omega)).mono ?_
  rintro e w1 ⟨g, rfl, l0, u0, hg, k1, hk1, hr⟩
  have RD1 := Lib.hid hr
  have X1 := Lib.hid (X0.out.grown hg hN)
  have G1 := Lib.hid (grown_trans G0.out hg)
  clear hg hr
  go_wp2_with fail
  refine (drawexp0_any R k1 _ _ RD1.out (by omega)).mono ?_
  rintro e w2 ⟨secret, rfl, l1, u1, hg, k2, hk2, hr⟩
  have RD2 := Lib.hid hr
  have X2 := Lib.hid (X1.out.grown hg hN)
  have G2 := Lib.hid (grown_trans G1.out hg)
  clear hg hr
  go_wp2_with fail
  refine (drawexp0_any R k2 _ _ RD2.out (by omega)).mono ?_
  rintro e w3 ⟨further, rfl, l2, u2, hg, k3, hk3, hr⟩
  have RD3 := Lib.hid hr
  have X3 := Lib.hid (X2.out.grown hg hN)
  have G3 := Lib.hid (grown_trans G2.out hg)
  clear hg hr
  go_wp2_with fail
  refine (drawexp0_any R k3 _ _ RD3.out (by omega)).mono ?_
  rintro e w4 ⟨ask, rfl, l3, u3, hg, k4, hk4, hr⟩
  have RD4 := Lib.hid hr
  have X4 := Lib.hid (X3.out.grown hg hN)
  have G4 := Lib.hid (grown_trans G3.out hg)
  clear hg hr
  go_wp2_with fail
  refine (stalk_some _ _ _ _ _).mono ?_
  rintro e w5 ⟨s, a, t, b, rfl, ⟨s0, s1⟩, ⟨a0, a1⟩, ⟨t0, t1⟩, hb⟩
  have RD5 := Lib.hid (RD4.out.below hb)
  have X5 := Lib.hid (X4.out.grown (grown_below R hb) hN)
  have G5 := Lib.hid (grown_trans G4.out (grown_below R hb))
  clear hb
  go_wp2_with fail
  have hN1 : w5.heap.size ≠ R := by have := RD5.out.lt; omega
  have hW0 : w.heap.size < w5.heap.size := X5.out.lt
  have hW1 : w.heap.size ≤ w5.heap.size := by omega
  have hR1 : R < w5.heap.size := by omega
  have hNN : w.heap.size ≠ w5.heap.size := by omega
  refine (odd_any R k4 _ _ (RD5.out.below (below_alloc w5 _)) (by omega) (by omega) (by omega)).mono ?_
  rintro e w6 ⟨b2, rfl, m6, hw6⟩
  have RD6 : Hid (Rd w6 R (k4 + 1)) := Lib.hid (by rw [hw6]; exact (RD5.out.below (below_alloc w5 _)).next m6)
  have Y6 : Hid (Box w6 w5.heap.size s a t) := Lib.hid (by rw [hw6]; exact (Box.new w5 s a t).grown (grown_pick _ R k4 m6) hN1)
  have X6 : Hid (Box w6 w.heap.size 0 0 0) := Lib.hid (by rw [hw6]; exact (X5.out.alloc _).grown (grown_pick _ R k4 m6) hN)
  have G6 : Hid (w.grownBy w6 (some R)) := Lib.hid (by rw [hw6]; exact grown_trans (grown_trans G5.out (World.grownBy_alloc _ _ _)) (grown_pick _ R k4 m6))
  clear hw6 RD5 X5 G5
  cases b2
  · go_wp2_with fail
    obtain ⟨⟨c0, c1, c2⟩, _⟩ := Box.cells Y6.out
    go_region_with (go_at_call 40; refine (skey_any _ _ _).mono ?_; rintro e w9 ⟨rfl, hb⟩; have hb9 := Below.trans (Below.drew (Below.refl _ w6)) hb; have Y9 := Lib.hid (Y6.out.grown (grown_below R hb9) hN1); have X9 := Lib.hid (X6.out.grown (grown_below R hb9) hN); have RD9 := Lib.hid (RD6.out.below hb9); have G9 := Lib.hid (grown_trans G6.out (grown_below R hb9)); clear hb hb9; (obtain ⟨⟨d0, d1, d2⟩, _⟩ := Box.cells Y9.out); (obtain ⟨⟨r0, r1, r2⟩, f0, f1, f2⟩ := Box.cells X9.out))
    all_goals
      go_wp2
      refine bodyPost_ret (v := .tuple #[.int .i64 g, .int .i64 (keyOf g secret), .agg #[.int .i64 s, .int .i64 a, .int .i64 t]]) ?_ rfl ⟨_, _, _, _, _, rfl, ⟨by omega, by omega⟩, ⟨by omega, by omega⟩, ⟨by omega, by omega⟩, ⟨by omega, by omega⟩, grown_set (grown_set (grown_set G9.out (Nat.le_refl _)) (Nat.le_refl _)) (Nat.le_refl _), (k4 + 1), by omega, ((RD9.out.set hlt).set hlt).set hlt⟩
      simp [results, Tryd.results22, go_sem, r0, r1, r2]
  · go_wp2_with fail
    refine (pick_any R (k4 + 1) _ _ RD6.out (by omega)).mono ?_
    rintro e w7 ⟨v, rfl, v0, v1, m7, hw7⟩
    have v2 := v1 (by omega)
    clear v1
    have RD7 : Hid (Rd w7 R (k4 + 1 + 1)) := Lib.hid (by rw [hw7]; exact RD6.out.next m7)
    have Y7 : Hid (Box w7 w5.heap.size s a t) := Lib.hid (by rw [hw7]; exact Y6.out.grown (grown_pick _ R (k4 + 1) m7) hN1)
    have X7 : Hid (Box w7 w.heap.size 0 0 0) := Lib.hid (by rw [hw7]; exact X6.out.grown (grown_pick _ R (k4 + 1) m7) hN)
    have G7 : Hid (w.grownBy w7 (some R)) := Lib.hid (by rw [hw7]; exact grown_trans G6.out (grown_pick _ R (k4 + 1) m7))
    clear hw7
    obtain rfl | rfl | rfl : v = 0 ∨ v = 1 ∨ v = 2 := by omega
    · clear v0 v2
      obtain ⟨⟨c0, c1, c2⟩, f0, f1, f2⟩ := Box.cells Y7.out
      go_wp2_with fail
      obtain ⟨w8, hw8⟩ : ∃ w8, w8 = w7.setCell ⟨w5.heap.size, 2, none⟩ (.int .i64 (t + 1)) := ⟨_, rfl⟩
      rw [← hw8]
      have Y8 := Lib.hid (Y7.out.set2 (t + 1))
      have X8 := Lib.hid (X7.out.far hNN (o := 2) (.int .i64 (t + 1)))
      have RD8 := Lib.hid (RD7.out.set hR1 (o := 2) (x := .int .i64 (t + 1)))
      have G8 := Lib.hid (grown_set G7.out hW1 (o := 2) (x := .int .i64 (t + 1)))
      rw [← hw8] at Y8 X8 RD8 G8
      clear hw8 c0 c1 c2 f0 f1 f2
      obtain ⟨⟨c0, c1, c2⟩, _⟩ := Box.cells Y8.out
      go_region_with (go_at_call 40; refine (skey_any _ _ _).mono ?_; rintro e w9 ⟨rfl, hb⟩; have hb9 := Below.trans (Below.drew (Below.refl _ w8)) hb; have Y9 := Lib.hid (Y8.out.grown (grown_below R hb9) hN1); have X9 := Lib.hid (X8.out.grown (grown_below R hb9) hN); have RD9 := Lib.hid (RD8.out.below hb9); have G9 := Lib.hid (grown_trans G8.out (grown_below R hb9)); clear hb hb9; (obtain ⟨⟨d0, d1, d2⟩, _⟩ := Box.cells Y9.out); (obtain ⟨⟨r0, r1, r2⟩, f0, f1, f2⟩ := Box.cells X9.out))
      all_goals
        go_wp2
        refine bodyPost_ret (v := .tuple #[.int .i64 g, .int .i64 (keyOf g secret), .agg #[.int .i64 (s), .int .i64 (a), .int .i64 (t + 1)]]) ?_ rfl ⟨_, _, _, _, _, rfl, ⟨by omega, by omega⟩, ⟨by omega, by omega⟩, ⟨by omega, by omega⟩, ⟨by omega, by omega⟩, grown_set (grown_set (grown_set G9.out (Nat.le_refl _)) (Nat.le_refl _)) (Nat.le_refl _), (k4 + 1 + 1), by omega, ((RD9.out.set hlt).set hlt).set hlt⟩
        simp [results, Tryd.results22, go_sem, r0, r1, r2]
    · clear v0 v2
      go_wp2_with fail
      refine (drawelem_any R (k4 + 1 + 1) _ _ _ RD7.out (by omega) (by omega) (by omega)).mono ?_
      rintro e wx ⟨s', rfl, l7, u7, hg, k8, hk8, hr⟩
      have RDx := Lib.hid hr
      have Yx := Lib.hid (Y7.out.grown hg hN1)
      have Xx := Lib.hid (X7.out.grown hg hN)
      have Gx := Lib.hid (grown_trans G7.out hg)
      clear hg hr
      obtain ⟨⟨c0, c1, c2⟩, f0, f1, f2⟩ := Box.cells Yx.out
      go_wp2_with fail
      obtain ⟨w8, hw8⟩ : ∃ w8, w8 = wx.setCell ⟨w5.heap.size, 0, none⟩ (.int .i64 (s')) := ⟨_, rfl⟩
      rw [← hw8]
      have Y8 := Lib.hid (Yx.out.set0 (s'))
      have X8 := Lib.hid (Xx.out.far hNN (o := 0) (.int .i64 (s')))
      have RD8 := Lib.hid (RDx.out.set hR1 (o := 0) (x := .int .i64 (s')))
      have G8 := Lib.hid (grown_set Gx.out hW1 (o := 0) (x := .int .i64 (s')))
      rw [← hw8] at Y8 X8 RD8 G8
      clear hw8 c0 c1 c2 f0 f1 f2
      obtain ⟨⟨c0, c1, c2⟩, _⟩ := Box.cells Y8.out
      go_region_with (go_at_call 40; refine (skey_any _ _ _).mono ?_; rintro e w9 ⟨rfl, hb⟩; have hb9 := Below.trans (Below.drew (Below.refl _ w8)) hb; have Y9 := Lib.hid (Y8.out.grown (grown_below R hb9) hN1); have X9 := Lib.hid (X8.out.grown (grown_below R hb9) hN); have RD9 := Lib.hid (RD8.out.below hb9); have G9 := Lib.hid (grown_trans G8.out (grown_below R hb9)); clear hb hb9; (obtain ⟨⟨d0, d1, d2⟩, _⟩ := Box.cells Y9.out); (obtain ⟨⟨r0, r1, r2⟩, f0, f1, f2⟩ := Box.cells X9.out))
      all_goals
        go_wp2
        refine bodyPost_ret (v := .tuple #[.int .i64 g, .int .i64 (keyOf g secret), .agg #[.int .i64 (s'), .int .i64 (a), .int .i64 (t)]]) ?_ rfl ⟨_, _, _, _, _, rfl, ⟨by omega, by omega⟩, ⟨by omega, by omega⟩, ⟨by omega, by omega⟩, ⟨by omega, by omega⟩, grown_set (grown_set (grown_set G9.out (Nat.le_refl _)) (Nat.le_refl _)) (Nat.le_refl _), k8, by omega, ((RD9.out.set hlt).set hlt).set hlt⟩
        simp [results, Tryd.results22, go_sem, r0, r1, r2]
    · clear v0 v2
      go_wp2_with fail
      refine (drawexp_any R (k4 + 1 + 1) _ _ _ RD7.out (by omega) (by omega) (by omega)).mono ?_
      rintro e wx ⟨a', rfl, l7, u7, hg, k8, hk8, hr⟩
      have RDx := Lib.hid hr
      have Yx := Lib.hid (Y7.out.grown hg hN1)
      have Xx := Lib.hid (X7.out.grown hg hN)
      have Gx := Lib.hid (grown_trans G7.out hg)
      clear hg hr
      obtain ⟨⟨c0, c1, c2⟩, f0, f1, f2⟩ := Box.cells Yx.out
      go_wp2_with fail
      obtain ⟨w8, hw8⟩ : ∃ w8, w8 = wx.setCell ⟨w5.heap.size, 1, none⟩ (.int .i64 (a')) := ⟨_, rfl⟩
      rw [← hw8]
      have Y8 := Lib.hid (Yx.out.set1 (a'))
      have X8 := Lib.hid (Xx.out.far hNN (o := 1) (.int .i64 (a')))
      have RD8 := Lib.hid (RDx.out.set hR1 (o := 1) (x := .int .i64 (a')))
      have G8 := Lib.hid (grown_set Gx.out hW1 (o := 1) (x := .int .i64 (a')))
      rw [← hw8] at Y8 X8 RD8 G8
      clear hw8 c0 c1 c2 f0 f1 f2
      obtain ⟨⟨c0, c1, c2⟩, _⟩ := Box.cells Y8.out
      go_region_with (go_at_call 40; refine (skey_any _ _ _).mono ?_; rintro e w9 ⟨rfl, hb⟩; have hb9 := Below.trans (Below.drew (Below.refl _ w8)) hb; have Y9 := Lib.hid (Y8.out.grown (grown_below R hb9) hN1); have X9 := Lib.hid (X8.out.grown (grown_below R hb9) hN); have RD9 := Lib.hid (RD8.out.below hb9); have G9 := Lib.hid (grown_trans G8.out (grown_below R hb9)); clear hb hb9; (obtain ⟨⟨d0, d1, d2⟩, _⟩ := Box.cells Y9.out); (obtain ⟨⟨r0, r1, r2⟩, f0, f1, f2⟩ := Box.cells X9.out))
      all_goals
        go_wp2
        refine bodyPost_ret (v := .tuple #[.int .i64 g, .int .i64 (keyOf g secret), .agg #[.int .i64 (s), .int .i64 (a'), .int .i64 (t)]]) ?_ rfl ⟨_, _, _, _, _, rfl, ⟨by omega, by omega⟩, ⟨by omega, by omega⟩, ⟨by omega, by omega⟩, ⟨by omega, by omega⟩, grown_set (grown_set (grown_set G9.out (Nat.le_refl _)) (Nat.le_refl _)) (Nat.le_refl _), k8, by omega, ((RD9.out.set hlt).set hlt).set hlt⟩
        simp [results, Tryd.results22, go_sem, r0, r1, r2]

end Go.Proofs.YtacaeoalplggfacDoor
