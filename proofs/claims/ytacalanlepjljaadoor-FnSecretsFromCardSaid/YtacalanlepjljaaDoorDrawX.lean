/- Where a draw of exponents for a relation stands: the reader, a box, a list of its own. -/
import Derived.Test.YtacalanlepjljaaDoorDrawSt
namespace Go.Proofs.YtacalanlepjljaaDoor
open Go.RowKit

theorem own_draw {w w' : World} {R B : Nat} {v : Value} {xs : List Int} (h : Own w B v xs) (hR : R < B) (hg : w.grownBy w' (some R)) : Own w' B v xs :=
  own_heap h fun b hb => hg.block b (h.lt b hb).2 fun e => by cases e; have := (h.lt _ hb).1; omega

/-- The reader, a box below lo, and a list of the call's own from lo on. -/
structure Se (w : World) (R N lo : Nat) (P : List Value) (wr : World) (k : Nat) (v : Value) (xs : List Int) : Prop where
  rd : Rd wr R k
  gr : w.grownBy wr (some R)
  box : Box wr N P
  own : Own wr lo v xs
  r : R < N
  n : N < lo
  l : lo ≤ wr.heap.size
  w0 : w.heap.size ≤ N
section
variable {w : World} {R N lo : Nat} {P : List Value} {wr : World} {k : Nat} {v : Value} {xs : List Int}
theorem Se.draw {w' : World} {k' : Nat} (h : Se w R N lo P wr k v xs) (hg : wr.grownBy w' (some R)) (hr : Rd w' R k') : Se w R N lo P w' k' v xs := by
  have := h.r; have := h.n; have := h.l
  exact ⟨hr, grown_trans h.gr hg, h.box.kept (hg.block _ (by omega) (fun e => by cases e; omega)), own_draw h.own (by omega) hg, h.r, h.n, Nat.le_trans h.l hg.size, h.w0⟩
theorem Se.on {w' : World} (h : Se w R N lo P wr k v xs) (hb : Below wr.heap.size wr w') : Se w R N lo P w' k v xs := h.draw (grown_below R hb) (h.rd.below hb)
theorem Se.app {w' : World} {v' : Value} {ys : List Int} (h : Se w R N lo P wr k v xs) (ho : Own w' lo v' ys) (hg : wr.grownBy w' v.ownBlock) : Se w R N lo P w' k v' ys := by
  have q1 := h.r; have q2 := h.n; have q3 := h.l; have q4 := h.w0
  have hlo : ∀ b, v.ownBlock = some b → lo ≤ b := fun b hb => (h.own.lt b hb).1
  have hk : ∀ q, q < lo → w'.heap[q]? = wr.heap[q]? := fun q hq => hg.block q (by omega) fun e => by have := hlo q e.symm; omega
  have hgr := h.gr
  refine ⟨h.rd.upto (B := R + 1) ⟨hg.os, hg.tape, hg.output, hg.size, fun q hq => hk q (by omega)⟩ (by omega), ⟨hg.os.trans hgr.os, hg.tape.trans hgr.tape, hg.output.trans hgr.output, Nat.le_trans hgr.size hg.size, fun q a b => (hk q (by omega)).trans (hgr.block q a b)⟩,
    h.box.kept (hk _ (by omega)), ho, q1, q2, Nat.le_trans q3 hg.size, q4⟩
end
/-- A number is drawn and appended: as it was; drawn; beside its box; the longer list. -/
def Sz (w : World) (R N lo : Nat) (P : List Value) (k d : Nat) (Ok : Int → Prop) (v : Value) (xs : List Int) : Option (Int × Option (Nat ⊕ Value)) → World → Prop
  | none, w' => Se w R N lo P w' k v xs
  | some (y, none), w' => Ok y ∧ ∃ k', k' ≤ k + d ∧ Se w R N lo P w' k' v xs
  | some (y, some (.inl b)), w' => Ok y ∧ (∃ k', k' ≤ k + d ∧ Se w R N lo P w' k' v xs) ∧ Box w' b [.int .i64 y]
  | some (y, some (.inr v')), w' => Ok y ∧ ∃ k', k' ≤ k + d ∧ Se w R N lo P w' k' v' (xs ++ [y])
theorem Sz.box {w : World} {R N lo : Nat} {P : List Value} {k d : Nat} {Ok : Int → Prop} {v : Value} {xs : List Int} {z : Option (Int × Option (Nat ⊕ Value))} {w' : World} (h : Sz w R N lo P k d Ok v xs z w') : Box w' N P := by
  match z, h with
  | none, h => exact Se.box h
  | some (_, none), ⟨_, _, _, h⟩ => exact h.box
  | some (_, some (.inl _)), ⟨_, ⟨_, _, h⟩, _⟩ => exact h.box
  | some (_, some (.inr _)), ⟨_, _, _, h⟩ => exact h.box
theorem Sz.build {w : World} {R N lo : Nat} {P : List Value} {k d : Nat} {Ok : Int → Prop} {v : Value} {xs : List Int} {y : Int} {w' : World} {T : TypeId} (h : Sz w R N lo P k d Ok v xs (some (y, none)) w') :
    Sz w R N lo P k d Ok v xs (some (y, some (.inl w'.heap.size))) (w'.alloc (.cells #[.int .i64 y] T)) := by
  obtain ⟨h1, k', h2, h3⟩ := h
  exact ⟨h1, ⟨k', h2, h3.on (below_grow _ _)⟩, Box.made w' [.int .i64 y] T⟩
end Go.Proofs.YtacalanlepjljaaDoor
