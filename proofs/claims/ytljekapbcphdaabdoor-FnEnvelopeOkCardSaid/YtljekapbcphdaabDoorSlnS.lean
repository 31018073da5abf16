/- spec.SolutionsOf. -/
import Derived.Test.YtljekapbcphdaabDoorAllS
import Derived.Test.YtljekapbcphdaabDoorClS
import Derived.Test.YtljekapbcphdaabDoorBRd
namespace Go.Proofs.YtljekapbcphdaabDoor
open Go.RowKit

/-- Of the lists in a list those that are taken, so far, in a list that was there before. -/
structure SolBt (w : World) (P : List Value) (T : TypeId) (hi0 hi2 : Nat) (wr : World) (lv : Value) (us : List Value) (L : List (List Int)) (c : List Int → Bool) (v : Value) (us' : List Value) (k : Nat) : Prop where
  own : OwnSS wr (w.heap.size + 1) wr.heap.size v us' (solTo c L k)
  new : ∀ b, v.ownBlock = some b → b < hi0 ∨ hi2 ≤ b
  src : ∀ j, j < us'.length → ∃ i, i < k ∧ val us' j = val us i
  lots : OwnSS wr hi0 hi2 lv us L
  box : InB w P T wr
  size : hi2 ≤ wr.heap.size
  base : w.heap.size + 1 ≤ hi0
section
variable {w : World} {P : List Value} {T : TypeId} {hi0 hi2 : Nat} {wr : World} {lv : Value} {us : List Value} {L : List (List Int)} {c : List Int → Bool} {v : Value} {us' : List Value} {k : Nat}
theorem SolBt.on {w3 : World} (h : SolBt w P T hi0 hi2 wr lv us L c v us' k) (hb : Below wr.heap.size wr w3) : SolBt w P T hi0 hi2 w3 lv us L c v us' k :=
  ⟨h.own.onAll hb, h.new, h.src, h.lots.on hb, h.box.on hb, Nat.le_trans h.size hb.size, h.base⟩
theorem SolBt.pass (h : SolBt w P T hi0 hi2 wr lv us L c v us' k) (hc : c (row L k) = false) : SolBt w P T hi0 hi2 wr lv us L c v us' (k + 1) :=
  ⟨by rw [solTo_no hc]; exact h.own, h.new, fun j hj => by obtain ⟨i, hi, e⟩ := h.src j hj; exact ⟨i, by omega, e⟩, h.lots, h.box, h.size, h.base⟩
theorem SolBt.take {w4 : World} {v' : Value} (h : SolBt w P T hi0 hi2 wr lv us L c v us' k) (hk : k < us.length) (hc : c (row L k) = true)
    (ho : w4.ownsRow (w.heap.size + 1) 24 1 v' (us' ++ [val us k]).length (us' ++ [val us k])) (hg : wr.grownBy w4 v.ownBlock) (hv : v'.ownBlock = v.ownBlock ∨ ∃ b, v'.ownBlock = some b ∧ wr.heap.size ≤ b) : SolBt w P T hi0 hi2 w4 lv us L c v' (us' ++ [val us k]) (k + 1) := by
  have hsz := h.size
  refine ⟨?_, fun b hb => ?_, fun j hj => ?_, ?_, h.box.grown hg (fun b hb => (h.own.outer.lt b hb).1), Nat.le_trans h.size hg.size, h.base⟩
  · rw [solTo_yes hc]
    refine OwnSS.app h.own hg.size hg.size (Nat.le_refl _) (own_mono (h.lots.rows k hk) h.base) (fun j hj q h1 h2 => ?_) (fun q h1 h2 => ?_) ho hg hv
    · obtain ⟨i, hi, e⟩ := h.src j hj
      rw [e] at h1
      exact h.lots.apart i k hi hk q h1 h2
    · have := h.lots.his k hk q h1
      have := ((h.lots.rows k hk).lt q h1).1
      have := h.new q h2
      omega
  · rcases hv with hv | ⟨b', hv, hb'⟩
    · exact h.new b (by rw [← hv]; exact hb)
    · rw [hv] at hb; cases hb
      exact .inr (Nat.le_trans h.size hb')
  · simp at hj
    by_cases e : j < us'.length
    · obtain ⟨i, hi, e2⟩ := h.src j e
      exact ⟨i, by omega, by rw [val_app e]; exact e2⟩
    · obtain rfl : j = us'.length := by omega
      exact ⟨k, by omega, val_last⟩
  · exact h.lots.heap fun q h1 h2 => hg.block q (by omega) (fun e => by have := h.new q e.symm; omega)
end

end Go.Proofs.YtljekapbcphdaabDoor
