/- impl.numberRows. -/
import Derived.Test.YtipndddmjgjgpabDoorRegionJ
namespace Go.Proofs.YtipndddmjgjgpabDoor
open Go.RowKit

/-- The list of one empty list, as it is laid. -/
theorem ownSS_one (w : World) : OwnSS (w.alloc (.cells #[.slice none 0 0] 23)) w.heap.size (w.alloc (.cells #[.slice none 0 0] 23)).heap.size (.slice (some ⟨w.heap.size, 0, none⟩) 1 1) [.slice none 0 0] [[]] := by
  have h := World.ownsRow_lit (base := w.heap.size) (e := 23) (size := 1) w #[.slice none 0 0] 1 (Nat.le_refl _) (by decide) rfl
  have e0 : ∀ j, j < [Value.slice none 0 0].length → val [Value.slice none 0 0] j = .slice none 0 0 := fun j hj => by
    have : j = 0 := by simpa using hj
    subst this; rfl
  refine ⟨h, rfl, fun k hk => (h.lt k hk).2, fun j hj => ?_, fun j hj k hk => ?_, fun i j hij hj k hk _ => ?_, fun j hj k hk _ => ?_⟩
  · rw [e0 j hj]
    have : j = 0 := by simpa using hj
    subst this; exact World.ownsRow_nil _ _ _ _
  · rw [e0 j hj] at hk; simp [Value.ownBlock] at hk
  · rw [e0 i (by omega)] at hk; simp [Value.ownBlock] at hk
  · rw [e0 j hj] at hk; simp [Value.ownBlock] at hk

/-- Rows behind rows: one row more, in blocks behind all. -/
theorem OwnSS.next {wr w2 w4 : World} {lo : Nat} {v v' u : Value} {us : List Value} {xss : List (List Int)} {ys : List Int} (h : OwnSS wr lo wr.heap.size v us xss) (hlo : lo ≤ wr.heap.size) (hb : Below wr.heap.size wr w2) (hu : Own w2 wr.heap.size u ys)
    (ho : w4.ownsRow lo 23 1 v' (us ++ [u]).length (us ++ [u])) (hg : w2.grownBy w4 v.ownBlock) (hk : v'.ownBlock = v.ownBlock ∨ ∃ k, v'.ownBlock = some k ∧ w2.heap.size ≤ k) : OwnSS w4 lo w4.heap.size v' (us ++ [u]) (xss ++ [ys]) :=
  OwnSS.app (h.on hb) (Nat.le_trans hb.size hg.size) hg.size (Nat.le_refl _) (own_mono hu hlo) (fun j hj k h1 h2 => by have := h.his j hj k h1; have := (hu.lt k h2).1; omega)
    (fun k h1 h2 => by have := h.hi0 k h2; have := (hu.lt k h1).1; omega) ho hg hk
theorem OwnSS.intsAt {w : World} {lo hi : Nat} {v : Value} {us : List Value} {xss : List (List Int)} (h : OwnSS w lo hi v us xss) {j : Nat} (hj : j < xss.length) (hr : (row xss j).length ≤ maxLen) : ∃ g c, v = .slice (some ⟨g, 0, none⟩) xss.length c ∧ g < w.heap.size ∧ w.cell? ⟨g, j, none⟩ = some (val us j) ∧ Ints w (val us j) (row xss j) := by
  obtain ⟨a, c, e, h1⟩ := outer_cell h.outer
  rw [← h.len] at hj ⊢
  obtain ⟨g, rfl, e2, e3⟩ := h1 j hj
  exact ⟨g, c, e, e2, e3, Ints.of_own (h.rows j hj) hr⟩
theorem lots_row {q m j : Nat} (hj : j < (lots q m).length) : (row (lots q m) j).length = m := (lots_mem.1 (row_mem hj)).1

end Go.Proofs.YtipndddmjgjgpabDoor
