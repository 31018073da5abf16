/- A region of an exact law that copies a relation and talks and hands them on: what is known so far. -/
import Derived.Test.YtopjlbihhbjhnaaDoorMark
import Derived.Test.YtopjlbihhbjhnaaDoorRegionI
namespace Go.Proofs.YtopjlbihhbjhnaaDoor
open Go.RowKit

/-- By the values made so far: the relation's lists; a talk's; a second talk's; or one list that came back. -/
def Zc (wk : World) (rows : List (List Int)) (makes ss ts ss2 ts2 xs : List Int) : List Value → World → Prop
  | [rv, mv], w' => Below wk.heap.size wk w' ∧ Cw w' rv mv rows makes
  | [rv, mv, sv, tv], w' => Below wk.heap.size wk w' ∧ Cw w' rv mv rows makes ∧ Ints w' sv ss ∧ Ints w' tv ts
  | [rv, mv, sv, tv, s2, t2], w' => Below wk.heap.size wk w' ∧ Cw w' rv mv rows makes ∧ Ints w' sv ss ∧ Ints w' tv ts ∧ Ints w' s2 ss2 ∧ Ints w' t2 ts2
  | [v], w' => Below wk.heap.size wk w' ∧ Own w' wk.heap.size v xs
  | _, w' => Below wk.heap.size wk w'
theorem Zc.below {wk : World} {rows : List (List Int)} {makes ss ts ss2 ts2 xs : List Int} {z : List Value} {w' : World} (h : Zc wk rows makes ss ts ss2 ts2 xs z w') : Below wk.heap.size wk w' := by
  unfold Zc at h
  split at h
  · exact h.1
  · exact h.1
  · exact h.1
  · exact h.1
  · exact h
theorem Zc.on {wk : World} {rows : List (List Int)} {makes ss ts ss2 ts2 xs : List Int} {z : List Value} {w1 w2 : World} (h : Zc wk rows makes ss ts ss2 ts2 xs z w1) (hb : Below w1.heap.size w1 w2) : Zc wk rows makes ss ts ss2 ts2 xs z w2 := by
  unfold Zc at *
  split at h
  · exact ⟨Below.on h.1 hb, h.2.on hb⟩
  · exact ⟨Below.on h.1 hb, h.2.1.on hb, h.2.2.1.below hb, h.2.2.2.below hb⟩
  · exact ⟨Below.on h.1 hb, h.2.1.on hb, h.2.2.1.below hb, h.2.2.2.1.below hb, h.2.2.2.2.1.below hb, h.2.2.2.2.2.below hb⟩
  · exact ⟨Below.on h.1 hb, own_below h.2 hb⟩
  · rename_i h1 h2 h3 h4
    exact Below.on h hb
end Go.Proofs.YtopjlbihhbjhnaaDoor
