/- A number is reckoned and appended to a list of the law's own, in a region that draws its order. -/
import Derived.Test.YtclihkcigppgjaaDoorLawR
import Derived.Test.YtclihkcigppgjaaDoorDrawF
namespace Go.Proofs.YtclihkcigppgjaaDoor
open Go.RowKit

/-- As it was; beside the box of the number; the longer list. -/
def Kt (wb : World) (v : Value) (xs : List Int) (y : Int) : Option (Nat ⊕ Value) → World → Prop
  | none, w' => Below wb.heap.size wb w' ∧ Own w' wb.heap.size v xs
  | some (.inl N), w' => (Below wb.heap.size wb w' ∧ Own w' wb.heap.size v xs) ∧ Box w' N [.int .i64 y]
  | some (.inr v'), w' => Below wb.heap.size wb w' ∧ Own w' wb.heap.size v' (xs ++ [y])
theorem Kt.below {wb : World} {v : Value} {xs : List Int} {y : Int} {z : Option (Nat ⊕ Value)} {w' : World} (h : Kt wb v xs y z w') : Below wb.heap.size wb w' := by
  match z, h with
  | none, h => exact h.1
  | some (.inl _), h => exact h.1.1
  | some (.inr _), h => exact h.1
theorem Kt.on {wb : World} {v : Value} {xs : List Int} {y : Int} {w1 w2 : World} (h : Kt wb v xs y none w1) (hb : Below w1.heap.size w1 w2) : Kt wb v xs y none w2 :=
  ⟨Below.on h.1 hb, own_below h.2 hb⟩
theorem Kt.build {wb : World} {v : Value} {xs : List Int} {y : Int} {w' : World} {T : TypeId} (h : Kt wb v xs y none w') : Kt wb v xs y (some (.inl w'.heap.size)) (w'.alloc (.cells #[.int .i64 y] T)) :=
  ⟨Kt.on h (below_grow _ _), Box.made w' [.int .i64 y] T⟩
theorem Kt.app {wb : World} {v v' : Value} {xs : List Int} {y : Int} {w1 w2 : World} (h : Below wb.heap.size wb w1 ∧ Own w1 wb.heap.size v xs) (ho : Own w2 wb.heap.size v' (xs ++ [y])) (hg : w1.grownBy w2 v.ownBlock) : Kt wb v xs y (some (.inr v')) w2 :=
  ⟨h.1.grown hg h.1.size fun k hk => (h.2.lt k hk).1, ho⟩
end Go.Proofs.YtclihkcigppgjaaDoor
