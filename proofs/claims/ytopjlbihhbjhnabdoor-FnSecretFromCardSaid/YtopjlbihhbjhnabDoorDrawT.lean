/- Draws of chapter 2: exponents without a miss, talks. -/
import Derived.Test.YtopjlbihhbjhnabDoorDrawB
import Derived.Test.YtopjlbihhbjhnabDoorTalkS
import Derived.Deep.RegionWith
namespace Go.Proofs.YtopjlbihhbjhnabDoor
open Go.RowKit

theorem drawexp0_any (R k : Nat) (g : Int) (w : World) (h : Rd w R k) (hk : k ≤ 90000) : Calls Tryd.prog 53 #[.pointer (some ⟨R, 0, none⟩), .int .i64 g, .int .i64 0] w (NumPost R k 2 0 22 w) := by
  have H := Lib.hid h; clear h
  by_cases hg : 0 ≤ g ∧ g < 4
  · obtain ⟨o1, o2⟩ := ord_bd hg.1 hg.2
    have o3 : 1 ≤ ord g := by omega
    clear hg
    go_enter Tryd.func53, Tryd.ntmps53
    go_wp2_with fail
    refine (sord_any _ _).mono ?_
    rintro e w0 ⟨rfl, hb0⟩
    have H0 : Hid (Rd w0 R k) := Lib.hid (H.out.below hb0)
    have G0 : Hid (w.grownBy w0 (some R)) := Lib.hid (grown_below R hb0)
    clear hb0
    go_wp2_with fail
    refine (odd_zero _ _ _ (by omega)).mono ?_
    rintro e w1 ⟨rfl, rfl⟩
    go_wp2_with fail
    refine (pick_any R k _ _ H0.out (by omega)).mono ?_
    rintro e w2 ⟨v, rfl, v0, v1, m2, hw2⟩
    have v2 := v1 (by omega)
    clear v1
    have H2 : Hid (Rd w2 R (k + 1)) := Lib.hid (by rw [hw2]; exact H0.out.next m2)
    have G2 : Hid (w.grownBy w2 (some R)) := Lib.hid (by rw [hw2]; exact grown_trans G0.out (grown_pick _ R k m2))
    clear hw2
    go_wp2
    go_ret
    exact ⟨_, rfl, by omega, by omega, G2.out, _, by omega, H2.out⟩
  · have HX := Lib.hid (ord_none hg)
    clear hg
    go_enter Tryd.func53, Tryd.ntmps53
    go_wp2_with fail
    refine (sord_any _ _).mono ?_
    rintro e w0 ⟨rfl, hb0⟩
    rw [HX.out]
    have H0 : Hid (Rd w0 R k) := Lib.hid (H.out.below hb0)
    have G0 : Hid (w.grownBy w0 (some R)) := Lib.hid (grown_below R hb0)
    clear hb0
    go_wp2_with fail
    refine (odd_zero _ _ _ (by omega)).mono ?_
    rintro e w1 ⟨rfl, rfl⟩
    go_wp2_with fail
    refine (pick_any R k _ _ H0.out (by omega)).mono ?_
    rintro e w2 ⟨v, rfl, v0, v1, m2, hw2⟩
    have v2 := v1 (by omega)
    clear v1
    have H2 : Hid (Rd w2 R (k + 1)) := Lib.hid (by rw [hw2]; exact H0.out.next m2)
    have G2 : Hid (w.grownBy w2 (some R)) := Lib.hid (by rw [hw2]; exact grown_trans G0.out (grown_pick _ R k m2))
    clear hw2
    go_wp2
    go_ret
    exact ⟨_, rfl, by omega, by omega, G2.out, _, by omega, H2.out⟩

/-- spec.TalkOf, whatever its arguments: some talk, of bounded numbers, or nothing. -/
def TalkOfPost (w : World) (e : Ending) (w' : World) : Prop :=
  ∃ s a t : Int, ∃ b : Bool, e = .returned (.tuple #[.agg #[.int .i64 s, .int .i64 a, .int .i64 t], .bool b]) ∧ (0 ≤ s ∧ s ≤ 46) ∧ (0 ≤ a ∧ a ≤ 22) ∧ (0 ≤ t ∧ t ≤ 22) ∧ Below w.heap.size w w'
theorem stalk_some (g secret further ask : Int) (w : World) : Calls Tryd.prog 54 #[.int .i64 g, .int .i64 secret, .int .i64 further, .int .i64 ask] w (TalkOfPost w) := by
  by_cases h : exB g secret = true ∧ exB g further = true ∧ exB g ask = true
  · obtain ⟨h1, h2, h3⟩ := h
    refine (stalk_yes g secret further ask w h1 h2 h3).mono ?_
    rintro e w' ⟨he, hb⟩
    obtain ⟨⟨g0, g4⟩, _⟩ := exB_true.1 h1
    obtain ⟨b1, _, b2⟩ := elB_bound (gp_el (bas_el g0 g4) further)
    obtain ⟨_, a1, a2⟩ := exB_true.1 h3
    obtain ⟨_, t1, t2⟩ := exB_true.1 (tell_ex g0 g4 secret further ask)
    have o := ord_bd g0 g4
    exact ⟨_, _, _, _, he, ⟨by omega, by omega⟩, ⟨by omega, by omega⟩, ⟨by omega, by omega⟩, hb⟩
  · refine (stalk_no g secret further ask w h).mono ?_
    rintro e w' ⟨he, hb⟩
    exact ⟨_, _, _, _, he, ⟨by omega, by omega⟩, ⟨by omega, by omega⟩, ⟨by omega, by omega⟩, hb⟩

/-- A box of three numbers at block N. -/
def Box (w : World) (N : Nat) (s a t : Int) : Prop := w.heap[N]? = some (.cells #[.int .i64 s, .int .i64 a, .int .i64 t] 24 (0, 0))
theorem Box.lt {w : World} {N : Nat} {s a t : Int} (h : Box w N s a t) : N < w.heap.size := (Array.getElem?_eq_some_iff.1 h).1
theorem Box.cells {w : World} {N : Nat} {s a t : Int} (h : Box w N s a t) : (w.cell? ⟨N, 0, none⟩ = some (.int .i64 s) ∧ w.cell? ⟨N, 1, none⟩ = some (.int .i64 a) ∧ w.cell? ⟨N, 2, none⟩ = some (.int .i64 t)) ∧ w.frozen? ⟨N, 0, none⟩ = false ∧ w.frozen? ⟨N, 1, none⟩ = false ∧ w.frozen? ⟨N, 2, none⟩ = false := by
  unfold Box at h
  refine ⟨⟨?_, ?_, ?_⟩, ?_, ?_, ?_⟩
  · rw [cell_of_row w N 0 _ _ (0, 0) h]; rfl
  · rw [cell_of_row w N 1 _ _ (0, 0) h]; rfl
  · rw [cell_of_row w N 2 _ _ (0, 0) h]; rfl
  · exact frozen_of_row w N 0 _ _ h
  · exact frozen_of_row w N 1 _ _ h
  · exact frozen_of_row w N 2 _ _ h
theorem Box.grown {w w' : World} {N R : Nat} {s a t : Int} (h : Box w N s a t) (hg : w.grownBy w' (some R)) (hne : N ≠ R) : Box w' N s a t := (hg.block N h.lt (by simpa using hne)).trans h
theorem Box.new (w : World) (s a t : Int) : Box (w.alloc (.cells #[.int .i64 s, .int .i64 a, .int .i64 t] 24)) w.heap.size s a t := heap_alloc_new w _
theorem Box.alloc {w : World} {N : Nat} {s a t : Int} (h : Box w N s a t) (o : Obj) : Box (w.alloc o) N s a t := (Below.heap_alloc w o N h.lt).trans h
theorem Box.set0 {w : World} {N : Nat} {s a t : Int} (h : Box w N s a t) (x : Int) : Box (w.setCell ⟨N, 0, none⟩ (.int .i64 x)) N x a t := by
  have := heap_setCell_same w N 0 _ _ (.int .i64 x) h
  exact this
theorem Box.set1 {w : World} {N : Nat} {s a t : Int} (h : Box w N s a t) (x : Int) : Box (w.setCell ⟨N, 1, none⟩ (.int .i64 x)) N s x t := by
  have := heap_setCell_same w N 1 _ _ (.int .i64 x) h
  exact this
theorem Box.set2 {w : World} {N : Nat} {s a t : Int} (h : Box w N s a t) (x : Int) : Box (w.setCell ⟨N, 2, none⟩ (.int .i64 x)) N s a x := by
  have := heap_setCell_same w N 2 _ _ (.int .i64 x) h
  exact this
theorem Box.far {w : World} {N M o : Nat} {s a t : Int} (h : Box w N s a t) (hne : N ≠ M) (x : Value) : Box (w.setCell ⟨M, o, none⟩ x) N s a t := (Below.heap_setCell w ⟨M, o, none⟩ x N hne).trans h

end Go.Proofs.YtopjlbihhbjhnabDoor
