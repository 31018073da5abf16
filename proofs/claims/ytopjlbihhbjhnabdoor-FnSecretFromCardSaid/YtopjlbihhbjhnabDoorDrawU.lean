/- The Draw functions of chapter 2 that give numbers and talks. -/
import Derived.Test.YtopjlbihhbjhnabDoorDrawC
import Derived.Test.YtopjlbihhbjhnabDoorDrawT2
namespace Go.Proofs.YtopjlbihhbjhnabDoor
open Go.RowKit

def Draw4Post (lo hi : Int) (w : World) (e : Ending) (w' : World) : Prop :=
  ∃ g a b c : Int, e = .returned (.tuple #[.int .i64 g, .int .i64 a, .int .i64 b, .int .i64 c]) ∧ (lo ≤ g ∧ g ≤ hi) ∧ (-10000 ≤ a ∧ a ≤ 10000) ∧ (-10000 ≤ b ∧ b ≤ 10000) ∧ (-10000 ≤ c ∧ c ≤ 10000) ∧ Below w.heap.size w w'
/-- A group, a key and a talk. -/
def DrawTPost (w : World) (e : Ending) (w' : World) : Prop :=
  ∃ g key s a t : Int, e = .returned (.tuple #[.int .i64 g, .int .i64 key, .agg #[.int .i64 s, .int .i64 a, .int .i64 t]]) ∧ (-1 ≤ g ∧ g ≤ 4) ∧ (-3 ≤ s ∧ s ≤ 47) ∧ (-1 ≤ a ∧ a ≤ 23) ∧ (0 ≤ t ∧ t ≤ 23) ∧ Below w.heap.size w w'
def DrawXPost (w : World) (e : Ending) (w' : World) : Prop :=
  ∃ g s a t : Int, e = .returned (.tuple #[.int .i64 g, .agg #[.int .i64 s, .int .i64 a, .int .i64 t]]) ∧ (-1 ≤ g ∧ g ≤ 4) ∧ (-3 ≤ s ∧ s ≤ 47) ∧ (-1 ≤ a ∧ a ≤ 23) ∧ (0 ≤ t ∧ t ≤ 23) ∧ Below w.heap.size w w'

theorem code_alloc {w : World} {s : Value} (h : CodeIn w s) (o : Obj) : CodeIn (w.alloc o) s := by
  rcases h with h | ⟨b, off, len, cap, z, e, g1, g2, g3, g4, g5, g6⟩
  · exact .inl h
  · exact .inr ⟨b, off, len, cap, z, e, g1, g2, g3, by simp; omega, fun j hj => (World.cell?_alloc_past _ _ _ g4).trans (g5 j hj), g6⟩

end Go.Proofs.YtopjlbihhbjhnabDoor
