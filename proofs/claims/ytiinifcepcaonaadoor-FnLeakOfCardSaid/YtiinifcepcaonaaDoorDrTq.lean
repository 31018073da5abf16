/- Draws of chapter 2: exponents without a miss, talks. -/
import Derived.Test.YtiinifcepcaonaaDoorBDraw
import Derived.Test.YtiinifcepcaonaaDoorBTalk
import Derived.Deep.RegionWith
namespace Go.Proofs.YtiinifcepcaonaaDoor
open Go.RowKit

/-- spec.TalkOf, whatever its arguments: some talk, of bounded numbers, or nothing. -/
def TalkOfPost (w : World) (e : Ending) (w' : World) : Prop :=
  ∃ s a t : Int, ∃ b : Bool, e = .returned (.tuple #[.agg #[.int .i64 s, .int .i64 a, .int .i64 t], .bool b]) ∧ (0 ≤ s ∧ s ≤ 46) ∧ (0 ≤ a ∧ a ≤ 22) ∧ (0 ≤ t ∧ t ≤ 22) ∧ Below w.heap.size w w'
theorem stalk_some (g secret further ask : Int) (w : World) : Calls Tryd.prog 87 #[.int .i64 g, .int .i64 secret, .int .i64 further, .int .i64 ask] w (TalkOfPost w) := by
  by_cases h : exB g secret = true ∧ exB g further = true ∧ exB g ask = true
  · obtain ⟨h1, h2, h3⟩ := h
    refine (stalk_yes g secret further ask w h1 h2 h3).mono ?_
    rintro e w' ⟨he, hb⟩
    obtain ⟨⟨g0, g4⟩, _⟩ := exB_true.1 h1
    obtain ⟨b1, _, b2⟩ := elB_bound (gp_el (bas_el g0 g4) further)
    obtain ⟨_, a1, a2⟩ := exB_true.1 h3
    obtain ⟨_, t1, t2⟩ := exB_true.1 (tell_ex g0 g4 secret further ask)
    have o := ord_bd g0 g4
    exact ⟨_, _, _, _, he, ⟨by omega, by omega⟩, ⟨by omega, by omega⟩, ⟨by omega, by omega⟩, hb⟩
  · refine (stalk_no g secret further ask w h).mono ?_
    rintro e w' ⟨he, hb⟩
    exact ⟨_, _, _, _, he, ⟨by omega, by omega⟩, ⟨by omega, by omega⟩, ⟨by omega, by omega⟩, hb⟩

/-- A box of three numbers at block N. -/
def BoxT (w : World) (N : Nat) (s a t : Int) : Prop := w.heap[N]? = some (.cells #[.int .i64 s, .int .i64 a, .int .i64 t] 45 (0, 0))
theorem BoxT.lt {w : World} {N : Nat} {s a t : Int} (h : BoxT w N s a t) : N < w.heap.size := (Array.getElem?_eq_some_iff.1 h).1
theorem BoxT.cells {w : World} {N : Nat} {s a t : Int} (h : BoxT w N s a t) : (w.cell? ⟨N, 0, none⟩ = some (.int .i64 s) ∧ w.cell? ⟨N, 1, none⟩ = some (.int .i64 a) ∧ w.cell? ⟨N, 2, none⟩ = some (.int .i64 t)) ∧ w.frozen? ⟨N, 0, none⟩ = false ∧ w.frozen? ⟨N, 1, none⟩ = false ∧ w.frozen? ⟨N, 2, none⟩ = false := by
  unfold BoxT at h
  refine ⟨⟨?_, ?_, ?_⟩, ?_, ?_, ?_⟩
  · rw [cell_of_row w N 0 _ _ (0, 0) h]; rfl
  · rw [cell_of_row w N 1 _ _ (0, 0) h]; rfl
  · rw [cell_of_row w N 2 _ _ (0, 0) h]; rfl
  · exact frozen_of_row w N 0 _ _ h
  · exact frozen_of_row w N 1 _ _ h
  · exact frozen_of_row w N 2 _ _ h
theorem BoxT.grown {w w' : World} {N R : Nat} {s a t : Int} (h : BoxT w N s a t) (hg : w.grownBy w' (some R)) (hne : N ≠ R) : BoxT w' N s a t := (hg.block N h.lt (by simpa using hne)).trans h
theorem BoxT.new (w : World) (s a t : Int) : BoxT (w.alloc (.cells #[.int .i64 s, .int .i64 a, .int .i64 t] 45)) w.heap.size s a t := heap_alloc_new w _
theorem BoxT.alloc {w : World} {N : Nat} {s a t : Int} (h : BoxT w N s a t) (o : Obj) : BoxT (w.alloc o) N s a t := (Below.heap_alloc w o N h.lt).trans h
theorem BoxT.set0 {w : World} {N : Nat} {s a t : Int} (h : BoxT w N s a t) (x : Int) : BoxT (w.setCell ⟨N, 0, none⟩ (.int .i64 x)) N x a t := by
  have := heap_setCell_same w N 0 _ _ (.int .i64 x) h
  exact this
theorem BoxT.set1 {w : World} {N : Nat} {s a t : Int} (h : BoxT w N s a t) (x : Int) : BoxT (w.setCell ⟨N, 1, none⟩ (.int .i64 x)) N s x t := by
  have := heap_setCell_same w N 1 _ _ (.int .i64 x) h
  exact this
theorem BoxT.set2 {w : World} {N : Nat} {s a t : Int} (h : BoxT w N s a t) (x : Int) : BoxT (w.setCell ⟨N, 2, none⟩ (.int .i64 x)) N s a x := by
  have := heap_setCell_same w N 2 _ _ (.int .i64 x) h
  exact this
theorem BoxT.far {w : World} {N M o : Nat} {s a t : Int} (h : BoxT w N s a t) (hne : N ≠ M) (x : Value) : BoxT (w.setCell ⟨M, o, none⟩ x) N s a t := (Below.heap_setCell w ⟨M, o, none⟩ x N hne).trans h

end Go.Proofs.YtiinifcepcaonaaDoor
