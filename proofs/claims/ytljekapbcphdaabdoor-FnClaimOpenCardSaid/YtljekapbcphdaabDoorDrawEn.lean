/- Draws of chapter 5: second bases, envelopes; which numbers a code gives, whatever it is; nothing that was there is written. -/
import Derived.Test.YtljekapbcphdaabDoorBDraw
import Derived.Test.YtljekapbcphdaabDoorWayS
namespace Go.Proofs.YtljekapbcphdaabDoor
open Go.RowKit

theorem drawexpz_any (R k : Nat) (g : Int) (w : World) (h : Rd w R k) (hk : k ≤ 90000) : Calls Tryd.prog 68 #[.pointer (some ⟨R, 0, none⟩), .int .i64 g, .int .i64 0] w (NumPost R k 2 0 22 w) := by
  have H := Lib.hid h; clear h
  by_cases hg : 0 ≤ g ∧ g < 4
  · obtain ⟨o1, o2⟩ := ord_bd hg.1 hg.2
    have o3 : 1 ≤ ord g := by omega
    clear hg
    go_enter Tryd.func68, Tryd.ntmps68
    go_wp2_with fail
    refine (sord_any _ _).mono ?_
    rintro e w0 ⟨rfl, hb0⟩
    have H0 : Hid (Rd w0 R k) := Lib.hid (H.out.below hb0)
    have G0 : Hid (w.grownBy w0 (some R)) := Lib.hid (grown_below R hb0)
    clear hb0
    go_wp2_with fail
    refine (odd_zero _ _ _ (by omega)).mono ?_
    rintro e w1 ⟨rfl, rfl⟩
    go_wp2_with fail
    refine (pick_any R k _ _ H0.out (by omega)).mono ?_
    rintro e w2 ⟨v, rfl, v0, v1, m2, hw2⟩
    have v2 := v1 (by omega)
    clear v1
    have H2 : Hid (Rd w2 R (k + 1)) := Lib.hid (by rw [hw2]; exact H0.out.next m2)
    have G2 : Hid (w.grownBy w2 (some R)) := Lib.hid (by rw [hw2]; exact grown_trans G0.out (grown_pick _ R k m2))
    clear hw2
    go_wp2
    go_ret
    exact ⟨_, rfl, by omega, by omega, G2.out, _, by omega, H2.out⟩
  · have HX := Lib.hid (ord_none hg)
    clear hg
    go_enter Tryd.func68, Tryd.ntmps68
    go_wp2_with fail
    refine (sord_any _ _).mono ?_
    rintro e w0 ⟨rfl, hb0⟩
    rw [HX.out]
    have H0 : Hid (Rd w0 R k) := Lib.hid (H.out.below hb0)
    have G0 : Hid (w.grownBy w0 (some R)) := Lib.hid (grown_below R hb0)
    clear hb0
    go_wp2_with fail
    refine (odd_zero _ _ _ (by omega)).mono ?_
    rintro e w1 ⟨rfl, rfl⟩
    go_wp2_with fail
    refine (pick_any R k _ _ H0.out (by omega)).mono ?_
    rintro e w2 ⟨v, rfl, v0, v1, m2, hw2⟩
    have v2 := v1 (by omega)
    clear v1
    have H2 : Hid (Rd w2 R (k + 1)) := Lib.hid (by rw [hw2]; exact H0.out.next m2)
    have G2 : Hid (w.grownBy w2 (some R)) := Lib.hid (by rw [hw2]; exact grown_trans G0.out (grown_pick _ R k m2))
    clear hw2
    go_wp2
    go_ret
    exact ⟨_, rfl, by omega, by omega, G2.out, _, by omega, H2.out⟩


theorem draw2nd_any (R k : Nat) (g n : Int) (w : World) (h : Rd w R k) (hk : k ≤ 90000) (hn : 1 ≤ n) (hn2 : n ≤ 100000) : Calls Tryd.prog 79 #[.pointer (some ⟨R, 0, none⟩), .int .i64 g, .int .i64 n] w (NumPost R k 2 0 47 w) := by
  have H := Lib.hid h; clear h
  by_cases hg : 0 ≤ g ∧ g < 4
  · obtain ⟨h0, h4⟩ := hg
    obtain ⟨p1, p2⟩ := prm_bd h0 h4
    obtain ⟨o1, o2⟩ := ord_bd h0 h4
    obtain ⟨b1, b2⟩ := bas_bd h0 h4
    have hp : decide (ord g < 0) = false := by simp; omega
    go_enter Tryd.func79, Tryd.ntmps79
    go_wp2_with fail
    refine (odd_any _ _ _ _ H.out (by omega) hn hn2).mono ?_
    rintro e w1 ⟨b, rfl, m, hw1⟩
    have H1 : Hid (Rd w1 R (k + 1)) := Lib.hid (by rw [hw1]; exact H.out.next m)
    have G1 : Hid (w.grownBy w1 (some R)) := Lib.hid (by rw [hw1]; exact grown_pick w R k m)
    clear hw1
    cases b
    · go_wp2_with fail
      refine (sord_any _ _).mono ?_
      rintro e w1a ⟨rfl, hb1⟩
      go_wp2_with fail
      refine (sbas_any _ _).mono ?_
      rintro e w1b ⟨rfl, hb2⟩
      go_wp2_with fail
      refine (sord_any _ _).mono ?_
      rintro e w1c ⟨rfl, hb3⟩
      have H1c : Hid (Rd w1c R (k + 1)) := Lib.hid (((H1.out.below hb1).below hb2).below hb3)
      have G1c : Hid (w.grownBy w1c (some R)) := Lib.hid (grown_trans (grown_trans (grown_trans G1.out (grown_below R hb1)) (grown_below R hb2)) (grown_below R hb3))
      clear hb1 hb2 hb3
      go_wp2_with fail
      refine (pick_any R (k + 1) _ _ H1c.out (by omega)).mono ?_
      rintro e w2 ⟨v, rfl, v0, v1, m2, hw2⟩
      have v2 := v1 (by omega)
      clear v1
      have H2 : Hid (Rd w2 R (k + 1 + 1)) := Lib.hid (by rw [hw2]; exact H1c.out.next m2)
      have G2 : Hid (w.grownBy w2 (some R)) := Lib.hid (by rw [hw2]; exact grown_trans G1c.out (grown_pick _ R (k + 1) m2))
      clear hw2
      go_wp2_with fail
      refine (spow_any _ _ _ _ h0 h4 (by omega) (by omega) (by omega) (by omega)).mono ?_
      rintro e w3 ⟨rfl, hb3⟩
      have H3 : Hid (Rd w3 R (k + 1 + 1)) := Lib.hid (H2.out.below hb3)
      have G3 : Hid (w.grownBy w3 (some R)) := Lib.hid (grown_trans G2.out (grown_below R hb3))
      have PB := pw_bound (prm g) (bas g) (by omega) ((1 + v) % ord g).toNat
      clear hb3
      go_wp2
      go_ret
      exact ⟨_, rfl, by omega, by omega, G3.out, _, by omega, H3.out⟩
    · skip
      have hlt2 := H1.out.lt
      have hne : R ≠ w1.heap.size := by omega
      go_wp2_with fail
      refine (pick_any R (k + 1) _ _ (H1.out.below ((Below.refl _ _).alloc (Nat.le_refl _) _)) (by omega)).mono ?_
      rintro e w2 ⟨v, rfl, v0, v1, m2, hw2⟩
      have v2 := v1 (by omega)
      clear v1
      have H2 : Hid (Rd w2 R (k + 1 + 1)) := Lib.hid (by rw [hw2]; exact (H1.out.below ((Below.refl _ _).alloc (Nat.le_refl _) _)).next m2)
      have G2 : Hid (w.grownBy w2 (some R)) := Lib.hid (by rw [hw2]; exact grown_trans (grown_trans G1.out (grown_below R ((Below.refl _ _).alloc (Nat.le_refl _) _))) (grown_pick _ R (k + 1) m2))
      have C2 : Hid (∀ (j : Nat) (u : Value), (#[.int .i64 1, .int .i64 0] : Array Value)[j]? = some u → w2.cell? ⟨w1.heap.size, j, none⟩ = some u) := Lib.hid (by rw [hw2]; intro j u hj; exact arr_cell hne hj)
      clear hw2
      obtain rfl | rfl : v = 0 ∨ v = 1 := by omega
      · have c := C2.out 0 _ rfl
        clear v0 v2
        go_wp2
        go_ret
        exact ⟨_, rfl, by omega, by omega, G2.out, _, by omega, H2.out⟩
      · have c := C2.out 1 _ rfl
        clear v0 v2
        go_wp2
        go_ret
        exact ⟨_, rfl, by omega, by omega, G2.out, _, by omega, H2.out⟩
  · have HX := Lib.hid (ord_none hg)
    clear hg
    go_enter Tryd.func79, Tryd.ntmps79
    go_wp2_with fail
    refine (odd_any _ _ _ _ H.out (by omega) hn hn2).mono ?_
    rintro e w1 ⟨b, rfl, m, hw1⟩
    have H1 : Hid (Rd w1 R (k + 1)) := Lib.hid (by rw [hw1]; exact H.out.next m)
    have G1 : Hid (w.grownBy w1 (some R)) := Lib.hid (by rw [hw1]; exact grown_pick w R k m)
    clear hw1
    cases b
    · go_wp2_with fail
      refine (sord_any _ _).mono ?_
      rintro e w1a ⟨rfl, hb1⟩
      rw [HX.out]
      have H1a : Hid (Rd w1a R (k + 1)) := Lib.hid (H1.out.below hb1)
      have G1a : Hid (w.grownBy w1a (some R)) := Lib.hid (grown_trans G1.out (grown_below R hb1))
      clear hb1 H1 G1
      have hlt2 := H1a.out.lt
      have hne : R ≠ w1a.heap.size := by omega
      go_wp2_with fail
      refine (pick_any R (k + 1) _ _ (H1a.out.below ((Below.refl _ _).alloc (Nat.le_refl _) _)) (by omega)).mono ?_
      rintro e w2 ⟨v, rfl, v0, v1, m2, hw2⟩
      have v2 := v1 (by omega)
      clear v1
      have H2 : Hid (Rd w2 R (k + 1 + 1)) := Lib.hid (by rw [hw2]; exact (H1a.out.below ((Below.refl _ _).alloc (Nat.le_refl _) _)).next m2)
      have G2 : Hid (w.grownBy w2 (some R)) := Lib.hid (by rw [hw2]; exact grown_trans (grown_trans G1a.out (grown_below R ((Below.refl _ _).alloc (Nat.le_refl _) _))) (grown_pick _ R (k + 1) m2))
      have C2 : Hid (∀ (j : Nat) (u : Value), (#[.int .i64 1, .int .i64 0] : Array Value)[j]? = some u → w2.cell? ⟨w1a.heap.size, j, none⟩ = some u) := Lib.hid (by rw [hw2]; intro j u hj; exact arr_cell hne hj)
      clear hw2
      obtain rfl | rfl : v = 0 ∨ v = 1 := by omega
      · have c := C2.out 0 _ rfl
        clear v0 v2
        go_wp2
        go_ret
        exact ⟨_, rfl, by omega, by omega, G2.out, _, by omega, H2.out⟩
      · have c := C2.out 1 _ rfl
        clear v0 v2
        go_wp2
        go_ret
        exact ⟨_, rfl, by omega, by omega, G2.out, _, by omega, H2.out⟩
    · skip
      have hlt2 := H1.out.lt
      have hne : R ≠ w1.heap.size := by omega
      go_wp2_with fail
      refine (pick_any R (k + 1) _ _ (H1.out.below ((Below.refl _ _).alloc (Nat.le_refl _) _)) (by omega)).mono ?_
      rintro e w2 ⟨v, rfl, v0, v1, m2, hw2⟩
      have v2 := v1 (by omega)
      clear v1
      have H2 : Hid (Rd w2 R (k + 1 + 1)) := Lib.hid (by rw [hw2]; exact (H1.out.below ((Below.refl _ _).alloc (Nat.le_refl _) _)).next m2)
      have G2 : Hid (w.grownBy w2 (some R)) := Lib.hid (by rw [hw2]; exact grown_trans (grown_trans G1.out (grown_below R ((Below.refl _ _).alloc (Nat.le_refl _) _))) (grown_pick _ R (k + 1) m2))
      have C2 : Hid (∀ (j : Nat) (u : Value), (#[.int .i64 1, .int .i64 0] : Array Value)[j]? = some u → w2.cell? ⟨w1.heap.size, j, none⟩ = some u) := Lib.hid (by rw [hw2]; intro j u hj; exact arr_cell hne hj)
      clear hw2
      obtain rfl | rfl : v = 0 ∨ v = 1 := by omega
      · have c := C2.out 0 _ rfl
        clear v0 v2
        go_wp2
        go_ret
        exact ⟨_, rfl, by omega, by omega, G2.out, _, by omega, H2.out⟩
      · have c := C2.out 1 _ rfl
        clear v0 v2
        go_wp2
        go_ret
        exact ⟨_, rfl, by omega, by omega, G2.out, _, by omega, H2.out⟩

def EnvPost (R k : Nat) (w : World) (e : Ending) (w' : World) : Prop :=
  ∃ g s v n f : Int, e = .returned (.tuple #[.int .i64 g, .int .i64 s, .int .i64 v, .int .i64 n, .int .i64 f]) ∧ w.grownBy w' (some R) ∧ ∃ k', k' ≤ k + 8 ∧ Rd w' R k'
theorem drawenv_any (R : Nat) (w : World) (h : Rd w R 0) : Calls Tryd.prog 66 #[.pointer (some ⟨R, 0, none⟩)] w (EnvPost R 0 w) := by
  have R0 := Lib.hid h; clear h
  have G0 := Lib.hid (grown_refl w R)
  go_enter Tryd.func66, Tryd.ntmps66
  go_wp2_with fail
  refine (drawgroup_any _ _ _ _ R0.out (by omega) (by omega) (by omega)).mono ?_
  rintro e w1 ⟨g, rfl, l1, u1, hg, k1, hk1, hr⟩
  have R1 := Lib.hid hr
  have G1 := Lib.hid (grown_trans G0.out hg)
  clear hg hr
  go_wp2_with fail
  refine (draw2nd_any _ _ _ _ _ R1.out (by omega) (by omega) (by omega)).mono ?_
  rintro e w2 ⟨s, rfl, l2, u2, hg, k2, hk2, hr⟩
  have R2 := Lib.hid hr
  have G2 := Lib.hid (grown_trans G1.out hg)
  clear hg hr
  go_wp2_with fail
  refine (drawexpz_any _ _ _ _ R2.out (by omega)).mono ?_
  rintro e w3 ⟨n, rfl, l3, u3, hg, k3, hk3, hr⟩
  have R3 := Lib.hid hr
  have G3 := Lib.hid (grown_trans G2.out hg)
  clear hg hr
  go_wp2_with fail
  refine (drawexpz_any _ _ _ _ R3.out (by omega)).mono ?_
  rintro e w4 ⟨f, rfl, l4, u4, hg, k4, hk4, hr⟩
  have R4 := Lib.hid hr
  have G4 := Lib.hid (grown_trans G3.out hg)
  clear hg hr
  go_wp2_with fail
  refine (senv_any _ _ _ _ _).mono ?_
  rintro e w5 ⟨rfl, hb⟩
  have R5 := Lib.hid (R4.out.below hb)
  have G5 := Lib.hid (grown_trans G4.out (grown_below R hb))
  clear hb
  go_wp2
  refine bodyPost_ret (v := .tuple #[.int .i64 g, .int .i64 s, .int .i64 (envO g s n f), .int .i64 n, .int .i64 f]) ?_ rfl ?_
  · simp [results, Tryd.results66, go_sem]
  · exact ⟨g, s, _, n, f, rfl, G5.out, _, by omega, R5.out⟩

def Dr2 (w : World) (e : Ending) (w' : World) : Prop := ∃ x0 x1 : Int, e = .returned (.tuple #[.int .i64 x0, .int .i64 x1]) ∧ Below w.heap.size w w'
def Dr3 (w : World) (e : Ending) (w' : World) : Prop := ∃ x0 x1 x2 : Int, e = .returned (.tuple #[.int .i64 x0, .int .i64 x1, .int .i64 x2]) ∧ Below w.heap.size w w'
def Dr4 (w : World) (e : Ending) (w' : World) : Prop := ∃ x0 x1 x2 x3 : Int, e = .returned (.tuple #[.int .i64 x0, .int .i64 x1, .int .i64 x2, .int .i64 x3]) ∧ Below w.heap.size w w'
def Dr5 (w : World) (e : Ending) (w' : World) : Prop := ∃ x0 x1 x2 x3 x4 : Int, e = .returned (.tuple #[.int .i64 x0, .int .i64 x1, .int .i64 x2, .int .i64 x3, .int .i64 x4]) ∧ Below w.heap.size w w'
def Dr7 (w : World) (e : Ending) (w' : World) : Prop := ∃ x0 x1 x2 x3 x4 x5 x6 : Int, e = .returned (.tuple #[.int .i64 x0, .int .i64 x1, .int .i64 x2, .int .i64 x3, .int .i64 x4, .int .i64 x5, .int .i64 x6]) ∧ Below w.heap.size w w'

theorem drawWaysOf_any (c : Value) (w : World) (h : CodeIn w c) : Calls Tryd.prog 74 #[c] w (Dr3 w) := by
  go_enter Tryd.func74, Tryd.ntmps74
  go_wp2_with fail
  refine (open_any _ _ h).mono ?_
  rintro e w0 ⟨rfl, H1, hb1⟩
  have R0 := Lib.hid H1
  have B0 := Lib.hid hb1
  have hs0 := hb1.size
  have G0 := Lib.hid (grown_refl w0 w.heap.size)
  clear hb1 h H1
  go_wp2_with fail
  refine (drawgroup_any _ _ _ _ R0.out (by omega) (by omega) (by omega)).mono ?_
  rintro e w1 ⟨g, rfl, l1, u1, hg, k1, hk1, hr⟩
  have R1 := Lib.hid hr
  have G1 := Lib.hid (grown_trans G0.out hg)
  clear hg hr
  go_wp2_with fail
  refine (draw2nd_any _ _ _ _ _ R1.out (by omega) (by omega) (by omega)).mono ?_
  rintro e w2 ⟨y0, rfl, l2, u2, hg, k2, hk2, hr⟩
  have R2 := Lib.hid hr
  have G2 := Lib.hid (grown_trans G1.out hg)
  clear hg hr
  go_wp2_with fail
  refine (drawelem_any _ _ _ _ _ R2.out (by omega) (by omega) (by omega)).mono ?_
  rintro e w3 ⟨y1, rfl, l3, u3, hg, k3, hk3, hr⟩
  have R3 := Lib.hid hr
  have G3 := Lib.hid (grown_trans G2.out hg)
  clear hg hr
  go_wp2
  refine bodyPost_ret (v := .tuple #[.int .i64 g, .int .i64 y0, .int .i64 y1]) ?_ rfl ?_
  · simp [results, Tryd.results74, go_sem]
  · exact ⟨_, _, _, rfl, below_of_grown B0.out G3.out hs0 (Nat.le_refl _)⟩

theorem drawClaimSame_any (c : Value) (w : World) (h : CodeIn w c) : Calls Tryd.prog 35 #[c] w (Dr4 w) := by
  go_enter Tryd.func35, Tryd.ntmps35
  go_wp2_with fail
  refine (open_any _ _ h).mono ?_
  rintro e w0 ⟨rfl, H1, hb1⟩
  have R0 := Lib.hid H1
  have B0 := Lib.hid hb1
  have hs0 := hb1.size
  have G0 := Lib.hid (grown_refl w0 w.heap.size)
  clear hb1 h H1
  go_wp2_with fail
  refine (drawgroup_any _ _ _ _ R0.out (by omega) (by omega) (by omega)).mono ?_
  rintro e w1 ⟨g, rfl, l1, u1, hg, k1, hk1, hr⟩
  have R1 := Lib.hid hr
  have G1 := Lib.hid (grown_trans G0.out hg)
  clear hg hr
  go_wp2_with fail
  refine (draw2nd_any _ _ _ _ _ R1.out (by omega) (by omega) (by omega)).mono ?_
  rintro e w2 ⟨y0, rfl, l2, u2, hg, k2, hk2, hr⟩
  have R2 := Lib.hid hr
  have G2 := Lib.hid (grown_trans G1.out hg)
  clear hg hr
  go_wp2_with fail
  refine (drawelem_any _ _ _ _ _ R2.out (by omega) (by omega) (by omega)).mono ?_
  rintro e w3 ⟨y1, rfl, l3, u3, hg, k3, hk3, hr⟩
  have R3 := Lib.hid hr
  have G3 := Lib.hid (grown_trans G2.out hg)
  clear hg hr
  go_wp2_with fail
  refine (drawelem_any _ _ _ _ _ R3.out (by omega) (by omega) (by omega)).mono ?_
  rintro e w4 ⟨y2, rfl, l4, u4, hg, k4, hk4, hr⟩
  have R4 := Lib.hid hr
  have G4 := Lib.hid (grown_trans G3.out hg)
  clear hg hr
  go_wp2
  refine bodyPost_ret (v := .tuple #[.int .i64 g, .int .i64 y0, .int .i64 y1, .int .i64 y2]) ?_ rfl ?_
  · simp [results, Tryd.results35, go_sem]
  · exact ⟨_, _, _, _, rfl, below_of_grown B0.out G4.out hs0 (Nat.le_refl _)⟩

theorem drawClaimOpen_any (c : Value) (w : World) (h : CodeIn w c) : Calls Tryd.prog 27 #[c] w (Dr3 w) := by
  go_enter Tryd.func27, Tryd.ntmps27
  go_wp2_with fail
  refine (drawWaysOf_any _ _ h).mono ?_
  rintro e w1 ⟨g, s, v, rfl, hb⟩
  go_wp2
  refine bodyPost_ret (v := .tuple #[.int .i64 g, .int .i64 s, .int .i64 v]) ?_ rfl ?_
  · simp [results, Tryd.results27, go_sem]
  · exact ⟨g, s, v, rfl, hb⟩

theorem drawEnvelopeOk_any (c : Value) (w : World) (h : CodeIn w c) : Calls Tryd.prog 24 #[c] w (Dr5 w) := by
  go_enter Tryd.func24, Tryd.ntmps24
  go_wp2_with fail
  refine (open_any _ _ h).mono ?_
  rintro e w0 ⟨rfl, H1, hb1⟩
  have R0 := Lib.hid H1
  have B0 := Lib.hid hb1
  have hs0 := hb1.size
  have G0 := Lib.hid (grown_refl w0 w.heap.size)
  clear hb1 h H1
  go_wp2_with fail
  refine (drawenv_any _ _ R0.out).mono ?_
  rintro e w1 ⟨g, s, v, n, f, rfl, hg, k1, hk1, hr⟩
  have R1 := Lib.hid hr
  have G1 := Lib.hid (grown_trans G0.out hg)
  clear hg hr
  go_wp2_with fail
  refine (odd_any _ _ _ _ R1.out (by omega) (by omega) (by omega)).mono ?_
  rintro e w2 ⟨b, rfl, m, hw⟩
  have R2 : Hid (Rd w2 w.heap.size _) := Lib.hid (by rw [hw]; exact R1.out.next m)
  have G2 : Hid (w0.grownBy w2 (some w.heap.size)) := Lib.hid (by rw [hw]; exact grown_trans G1.out (grown_pick _ _ _ m))
  clear hw
  cases b
  · skip
    go_wp2
    refine bodyPost_ret (v := .tuple #[.int .i64 g, .int .i64 s, .int .i64 v, .int .i64 n, .int .i64 f]) ?_ rfl ?_
    · simp [results, Tryd.results24, go_sem]
    · exact ⟨_, _, _, _, _, rfl, below_of_grown B0.out G2.out hs0 (Nat.le_refl _)⟩
  · skip
    go_wp2_with fail
    refine (drawexp_any _ _ _ _ _ R2.out (by omega) (by omega) (by omega)).mono ?_
    rintro e w3 ⟨n2, rfl, l3, u3, hg, k3, hk3, hr⟩
    have R3 := Lib.hid hr
    have G3 := Lib.hid (grown_trans G2.out hg)
    clear hg hr
    go_wp2
    refine bodyPost_ret (v := .tuple #[.int .i64 g, .int .i64 s, .int .i64 v, .int .i64 n2, .int .i64 f]) ?_ rfl ?_
    · simp [results, Tryd.results24, go_sem]
    · exact ⟨_, _, _, _, _, rfl, below_of_grown B0.out G3.out hs0 (Nat.le_refl _)⟩

theorem drawClaimNumber_any (c : Value) (w : World) (h : CodeIn w c) : Calls Tryd.prog 33 #[c] w (Dr4 w) := by
  go_enter Tryd.func33, Tryd.ntmps33
  go_wp2_with fail
  refine (open_any _ _ h).mono ?_
  rintro e w0 ⟨rfl, H1, hb1⟩
  have R0 := Lib.hid H1
  have B0 := Lib.hid hb1
  have hs0 := hb1.size
  have G0 := Lib.hid (grown_refl w0 w.heap.size)
  clear hb1 h H1
  go_wp2_with fail
  refine (drawenv_any _ _ R0.out).mono ?_
  rintro e w1 ⟨g, s, v, n, f, rfl, hg, k1, hk1, hr⟩
  have R1 := Lib.hid hr
  have G1 := Lib.hid (grown_trans G0.out hg)
  clear hg hr
  go_wp2_with fail
  refine (odd_any _ _ _ _ R1.out (by omega) (by omega) (by omega)).mono ?_
  rintro e w2 ⟨b, rfl, m, hw⟩
  have R2 : Hid (Rd w2 w.heap.size _) := Lib.hid (by rw [hw]; exact R1.out.next m)
  have G2 : Hid (w0.grownBy w2 (some w.heap.size)) := Lib.hid (by rw [hw]; exact grown_trans G1.out (grown_pick _ _ _ m))
  clear hw
  cases b
  · skip
    go_wp2
    refine bodyPost_ret (v := .tuple #[.int .i64 g, .int .i64 s, .int .i64 v, .int .i64 n]) ?_ rfl ?_
    · simp [results, Tryd.results33, go_sem]
    · exact ⟨_, _, _, _, rfl, below_of_grown B0.out G2.out hs0 (Nat.le_refl _)⟩
  · skip
    go_wp2_with fail
    refine (drawexp_any _ _ _ _ _ R2.out (by omega) (by omega) (by omega)).mono ?_
    rintro e w3 ⟨n2, rfl, l3, u3, hg, k3, hk3, hr⟩
    have R3 := Lib.hid hr
    have G3 := Lib.hid (grown_trans G2.out hg)
    clear hg hr
    go_wp2
    refine bodyPost_ret (v := .tuple #[.int .i64 g, .int .i64 s, .int .i64 v, .int .i64 n2]) ?_ rfl ?_
    · simp [results, Tryd.results33, go_sem]
    · exact ⟨_, _, _, _, rfl, below_of_grown B0.out G3.out hs0 (Nat.le_refl _)⟩

end Go.Proofs.YtljekapbcphdaabDoor
