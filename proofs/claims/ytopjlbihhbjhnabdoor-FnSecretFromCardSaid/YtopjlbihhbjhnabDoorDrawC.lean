/- The Draw functions of chapter 1: which numbers a code gives, whatever it is: some in bounds; nothing that was there is written. -/
import Derived.Test.YtopjlbihhbjhnabDoorDrawB
namespace Go.Proofs.YtopjlbihhbjhnabDoor
open Go.RowKit

def Draw1Post (lo hi : Int) (w : World) (e : Ending) (w' : World) : Prop := ∃ g : Int, e = .returned (.int .i64 g) ∧ lo ≤ g ∧ g ≤ hi ∧ Below w.heap.size w w'
def Draw2Post (lo hi : Int) (w : World) (e : Ending) (w' : World) : Prop :=
  ∃ g a : Int, e = .returned (.tuple #[.int .i64 g, .int .i64 a]) ∧ (lo ≤ g ∧ g ≤ hi) ∧ (-10000 ≤ a ∧ a ≤ 10000) ∧ Below w.heap.size w w'
def Draw3Post (lo hi : Int) (w : World) (e : Ending) (w' : World) : Prop :=
  ∃ g a b : Int, e = .returned (.tuple #[.int .i64 g, .int .i64 a, .int .i64 b]) ∧ (lo ≤ g ∧ g ≤ hi) ∧ (-10000 ≤ a ∧ a ≤ 10000) ∧ (-10100 ≤ b ∧ b ≤ 10100) ∧ Below w.heap.size w w'

end Go.Proofs.YtopjlbihhbjhnabDoor
