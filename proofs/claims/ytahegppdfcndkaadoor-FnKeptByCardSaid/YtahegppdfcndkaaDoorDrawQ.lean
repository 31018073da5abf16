/- Draws of chapter 3: a group, an exponent, an element, without a miss. -/
import Derived.Test.YtahegppdfcndkaaDoorBDraw
import Derived.Test.YtahegppdfcndkaaDoorBPure
namespace Go.Proofs.YtahegppdfcndkaaDoor
open Go.RowKit

/-- A number was drawn of which p holds, the reader some bytes on. -/
def NumP (R k d : Nat) (p : Int → Prop) (w : World) (e : Ending) (w' : World) : Prop :=
  ∃ v : Int, e = .returned (.int .i64 v) ∧ p v ∧ w.grownBy w' (some R) ∧ ∃ k', k' ≤ k + d ∧ Rd w' R k'

theorem drawgr0_any (R k : Nat) (w : World) (h : Rd w R k) (hk : k ≤ 90000) : Calls Tryd.prog 18 #[.pointer (some ⟨R, 0, none⟩), .int .i64 0] w (NumP R k 2 (fun g => 0 ≤ g ∧ g < 4) w) := by
  have H1 := Lib.hid h; clear h
  have hlt1 := H1.out.lt
  have hne : R ≠ w.heap.size := by omega
  go_enter Tryd.func18, Tryd.ntmps18
  go_wp2_with fail
  refine (odd_zero _ _ _ (by omega)).mono ?_
  rintro e w1 ⟨rfl, rfl⟩
  go_wp2_with fail
  refine (pick_any R k _ _ (H1.out.below ((Below.refl _ _).alloc (Nat.le_refl _) _)) (by omega)).mono ?_
  rintro e w2 ⟨v, rfl, v0, v1, m2, hw2⟩
  have v2 := v1 (by omega)
  clear v1
  have H2 : Hid (Rd w2 R (k + 1)) := Lib.hid (by rw [hw2]; exact (H1.out.below ((Below.refl _ _).alloc (Nat.le_refl _) _)).next m2)
  have G2 : Hid (w.grownBy w2 (some R)) := Lib.hid (by rw [hw2]; exact grown_trans (grown_below R ((Below.refl _ _).alloc (Nat.le_refl _) _)) (grown_pick _ R k m2))
  have C2 : Hid (∀ (j : Nat) (u : Value), (#[.int .i64 0, .int .i64 0, .int .i64 1, .int .i64 1, .int .i64 2, .int .i64 2, .int .i64 3] : Array Value)[j]? = some u → w2.cell? ⟨w.heap.size, j, none⟩ = some u) := Lib.hid (by rw [hw2]; intro j u hj; exact arr_cell hne hj)
  clear hw2
  obtain rfl | rfl | rfl | rfl | rfl | rfl | rfl : v = 0 ∨ v = 1 ∨ v = 2 ∨ v = 3 ∨ v = 4 ∨ v = 5 ∨ v = 6 := by omega
  · have c := C2.out 0 _ rfl
    clear v0 v2
    go_wp2
    go_ret
    exact ⟨_, rfl, by constructor <;> omega, G2.out, _, by omega, H2.out⟩
  · have c := C2.out 1 _ rfl
    clear v0 v2
    go_wp2
    go_ret
    exact ⟨_, rfl, by constructor <;> omega, G2.out, _, by omega, H2.out⟩
  · have c := C2.out 2 _ rfl
    clear v0 v2
    go_wp2
    go_ret
    exact ⟨_, rfl, by constructor <;> omega, G2.out, _, by omega, H2.out⟩
  · have c := C2.out 3 _ rfl
    clear v0 v2
    go_wp2
    go_ret
    exact ⟨_, rfl, by constructor <;> omega, G2.out, _, by omega, H2.out⟩
  · have c := C2.out 4 _ rfl
    clear v0 v2
    go_wp2
    go_ret
    exact ⟨_, rfl, by constructor <;> omega, G2.out, _, by omega, H2.out⟩
  · have c := C2.out 5 _ rfl
    clear v0 v2
    go_wp2
    go_ret
    exact ⟨_, rfl, by constructor <;> omega, G2.out, _, by omega, H2.out⟩
  · have c := C2.out 6 _ rfl
    clear v0 v2
    go_wp2
    go_ret
    exact ⟨_, rfl, by constructor <;> omega, G2.out, _, by omega, H2.out⟩

theorem drawex0_any (R k : Nat) (g : Int) (w : World) (h0 : 0 ≤ g) (h4 : g < 4) (h : Rd w R k) (hk : k ≤ 90000) : Calls Tryd.prog 19 #[.pointer (some ⟨R, 0, none⟩), .int .i64 g, .int .i64 0] w (NumP R k 2 (fun v => exB g v = true) w) := by
  have H := Lib.hid h; clear h
  obtain ⟨o1, o2⟩ := ord_bd h0 h4
  have o3 : 1 ≤ ord g := by omega
  have HE := Lib.hid (show ∀ v, 0 ≤ v → v < ord g → exB g v = true from fun v a b => exB_true.2 ⟨⟨h0, h4⟩, a, b⟩)
  go_enter Tryd.func19, Tryd.ntmps19
  go_wp2_with fail
  refine (sord_any _ _).mono ?_
  rintro e w0 ⟨rfl, hb0⟩
  have H0 : Hid (Rd w0 R k) := Lib.hid (H.out.below hb0)
  have G0 : Hid (w.grownBy w0 (some R)) := Lib.hid (grown_below R hb0)
  clear hb0
  go_wp2_with fail
  refine (odd_zero _ _ _ (by omega)).mono ?_
  rintro e w1 ⟨rfl, rfl⟩
  go_wp2_with fail
  refine (pick_any R k _ _ H0.out (by omega)).mono ?_
  rintro e w2 ⟨v, rfl, v0, v1, m2, hw2⟩
  have v2 := v1 (by omega)
  clear v1
  have H2 : Hid (Rd w2 R (k + 1)) := Lib.hid (by rw [hw2]; exact H0.out.next m2)
  have G2 : Hid (w.grownBy w2 (some R)) := Lib.hid (by rw [hw2]; exact grown_trans G0.out (grown_pick _ R k m2))
  have E2 := Lib.hid (HE.out v v0 (by omega))
  clear hw2
  go_wp2
  go_ret
  exact ⟨_, rfl, E2.out, G2.out, _, by omega, H2.out⟩

theorem drawel0_any (R k : Nat) (g : Int) (w : World) (h0 : 0 ≤ g) (h4 : g < 4) (h : Rd w R k) (hk : k ≤ 90000) : Calls Tryd.prog 39 #[.pointer (some ⟨R, 0, none⟩), .int .i64 g, .int .i64 0] w (NumP R k 2 (fun v => elB g v = true) w) := by
  have H1 := Lib.hid h; clear h
  have G1 : Hid (w.grownBy w (some R)) := Lib.hid (grown_refl w R)
  obtain ⟨p1, p2⟩ := prm_bd h0 h4
  obtain ⟨o1, o2⟩ := ord_bd h0 h4
  obtain ⟨b1, b2⟩ := bas_bd h0 h4
  have hp : decide (prm g < 0) = false := by simp; omega
  have HE := Lib.hid (show ∀ v, elB g (gp g (bas g) v) = true from fun v => gp_el (bas_el h0 h4) v)
  go_enter Tryd.func39, Tryd.ntmps39
  go_wp2_with fail
  refine (odd_zero _ _ _ (by omega)).mono ?_
  rintro e w1 ⟨rfl, rfl⟩
  go_wp2_with fail
  refine (sprm_any _ _).mono ?_
  rintro e w1a ⟨rfl, hb1⟩
  go_wp2_with fail
  refine (sbas_any _ _).mono ?_
  rintro e w1b ⟨rfl, hb2⟩
  go_wp2_with fail
  refine (sord_any _ _).mono ?_
  rintro e w1c ⟨rfl, hb3⟩
  have H1c : Hid (Rd w1c R k) := Lib.hid (((H1.out.below hb1).below hb2).below hb3)
  have G1c : Hid (w.grownBy w1c (some R)) := Lib.hid (grown_trans (grown_trans (grown_trans G1.out (grown_below R hb1)) (grown_below R hb2)) (grown_below R hb3))
  clear hb1 hb2 hb3
  go_wp2_with fail
  refine (pick_any R k _ _ H1c.out (by omega)).mono ?_
  rintro e w2 ⟨v, rfl, v0, v1, m2, hw2⟩
  have v2 := v1 (by omega)
  clear v1
  have H2 : Hid (Rd w2 R (k + 1)) := Lib.hid (by rw [hw2]; exact H1c.out.next m2)
  have G2 : Hid (w.grownBy w2 (some R)) := Lib.hid (by rw [hw2]; exact grown_trans G1c.out (grown_pick _ R k m2))
  clear hw2
  go_wp2_with fail
  refine (spow_any _ _ _ _ h0 h4 (by omega) (by omega) (by omega) (by omega)).mono ?_
  rintro e w3 ⟨rfl, hb3⟩
  have H3 : Hid (Rd w3 R (k + 1)) := Lib.hid (H2.out.below hb3)
  have G3 : Hid (w.grownBy w3 (some R)) := Lib.hid (grown_trans G2.out (grown_below R hb3))
  clear hb3
  go_wp2
  go_ret
  exact ⟨_, rfl, HE.out v, G3.out, _, by omega, H3.out⟩
end Go.Proofs.YtahegppdfcndkaaDoor
