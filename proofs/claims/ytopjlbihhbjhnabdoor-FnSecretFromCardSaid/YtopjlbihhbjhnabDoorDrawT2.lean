/- l20Talk: a group, a key and a talk that is mostly right. -/
import Derived.Test.YtopjlbihhbjhnabDoorDrawT
namespace Go.Proofs.YtopjlbihhbjhnabDoor
open Go.RowKit

def TalkPost (R k d : Nat) (w : World) (e : Ending) (w' : World) : Prop :=
  ∃ g key s a t : Int, e = .returned (.tuple #[.int .i64 g, .int .i64 key, .agg #[.int .i64 s, .int .i64 a, .int .i64 t]]) ∧ (-1 ≤ g ∧ g ≤ 4) ∧ (-3 ≤ s ∧ s ≤ 47) ∧ (-1 ≤ a ∧ a ≤ 23) ∧ (0 ≤ t ∧ t ≤ 23) ∧ w.grownBy w' (some R) ∧ ∃ k', k' ≤ k + d ∧ Rd w' R k'

theorem grown_set {w a : World} {R N o : Nat} {x : Value} (h : w.grownBy a (some R)) (hN : w.heap.size ≤ N) : w.grownBy (a.setCell ⟨N, o, none⟩ x) (some R) :=
  ⟨h.os, h.tape, h.output, by have := h.size; simpa [World.setCell] using this, fun k hk hr => (Below.heap_setCell a ⟨N, o, none⟩ x k (by show k ≠ N; omega)).trans (h.block k hk hr)⟩
theorem Rd.set {a : World} {R k N o : Nat} {x : Value} (h : Rd a R k) (hN : R < N) : Rd (a.setCell ⟨N, o, none⟩ x) R k := by
  refine h.of_same (World.cell?_setCell_other a ⟨N, o, none⟩ ⟨R, 0, none⟩ x (by first | (simp; done) | (simp; omega))) ((World.cell?_setCell_other a ⟨N, o, none⟩ ⟨R, 1, none⟩ x (by first | (simp; done) | (simp; omega))).trans h.pos) ((World.frozen?_setCell a ⟨N, o, none⟩ ⟨R, 1, none⟩ x).trans h.free) (by simp [World.setCell]) (fun b o' hb => World.cell?_setCell_other a ⟨N, o, none⟩ ⟨b, o', none⟩ x (by first | (simp; done) | (simp; omega)))

end Go.Proofs.YtopjlbihhbjhnabDoor
