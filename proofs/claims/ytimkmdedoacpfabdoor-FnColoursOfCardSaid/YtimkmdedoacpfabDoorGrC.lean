/- laws: graphs and turns copied, compared, marked, held. -/
import Derived.Test.YtimkmdedoacpfabDoorBMark
import Derived.Deep.Cut
namespace Go.Proofs.YtimkmdedoacpfabDoor
open Go.RowKit

theorem pair_on {w w' : World} {lo hi : Nat} {v u : Value} {xs ys zs : List Int} (h : Hl w (.p lo hi v u xs ys)) (ho : Own w' lo v zs) (hg : w.grownBy w' v.ownBlock) : Hl w' (.p lo hi v u zs ys) :=
  ⟨ho, h.2.1.kept hg (by
    cases hv : u.ownBlock with
    | none => exact .inl rfl
    | some k => exact .inr fun e => h.2.2.1 k e.symm hv), h.2.2.1, h.2.2.2.1, h.2.2.2.2.1, Nat.le_trans h.2.2.2.2.2 hg.size⟩
theorem pair_on' {w w' : World} {lo hi : Nat} {v u : Value} {xs ys zs : List Int} (h : Hl w (.p lo hi v u xs ys)) (ho : Own w' lo u zs) (hg : w.grownBy w' u.ownBlock) : Hl w' (.p lo hi v u xs zs) :=
  ⟨h.1.kept hg (by
    cases hv : v.ownBlock with
    | none => exact .inl rfl
    | some k => exact .inr fun e => h.2.2.1 k hv e.symm), ho, h.2.2.1, h.2.2.2.1, h.2.2.2.2.1, Nat.le_trans h.2.2.2.2.2 hg.size⟩
end Go.Proofs.YtimkmdedoacpfabDoor
