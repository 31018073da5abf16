/- Regions that draw their order: a call among several that may come up; one continuation behind all orders. -/
import Derived.Test.YtipndddmjgjgpabDoorRegionJ
namespace Go.Proofs.YtipndddmjgjgpabDoor
open Go.RowKit

section
variable {P : Program} {ops : Array Oper} {md : Region.Mode} {Z : Type} {C : Z → World → Prop} {S : Nat → Bool}
/-- A call, one of those that may come up. -/
theorem hOp_call {K : Z → Act → Prop} {i : Nat} {z : Z} {a : Act} {o : Oper} {d : Option Tmp} (f : FuncId) (args : Array Value) (hd : o.dst = d) (hS : S i = true) (ho : ops[i]? = some o) (hw : Region.wanted o (yielded ops a.tmps) = true)
    (hrun : ∀ w, (execOp a.eval o).run P w = .ok (.enter f args) w)
    (h : ∀ w, C z w → Calls P f args w fun e w' => ∃ v, e = .returned v ∧ ∃ z', C z' w' ∧ K z' (a.put d v)) : hOp P ops C S z i K a := by
  unfold hOp
  rw [if_pos hS]
  subst hd
  refine ⟨o, ho, hw, fun w hc => ?_⟩
  rw [hrun w]
  exact h w hc
end

section
variable {P : Program} {ops : Array Oper} {md : Region.Mode} {Z : Type} {C : Z → World → Prop} {S : Nat → Bool}
theorem wpAnyH_mono {Q Q' : Z → Act → Prop} (h : ∀ z a, Q z a → Q' z a) : ∀ (fuel : Nat) (listed : Array Bool) (z : Z) (a : Act), wpAnyH P md ops C S Q fuel listed z a → wpAnyH P md ops C S Q' fuel listed z a
  | 0, _, _, _, ⟨x, y⟩ => ⟨x, h _ _ y⟩
  | n + 1, _, _, _, ⟨x, y⟩ => ⟨fun e => h _ _ (x e), fun i hi => hOp_mono (fun z a => wpAnyH_mono h n _ z a) (y i hi)⟩
/-- Whatever the order, it ends in one of the forms pf d, with the ghost zf d. -/
theorem wpAnyH_key {D : Type} {Q : Z → Act → Prop} {fuel : Nat} {listed : Array Bool} {z : Z} {a : Act} (zf : D → Z) (pf : D → Act → Act)
    (h : wpAnyH P md ops C S (fun z' a' => ∃ d, z' = zf d ∧ a' = pf d a) fuel listed z a) (hk : ∀ d, Q (zf d) (pf d a)) : wpAnyH P md ops C S Q fuel listed z a :=
  wpAnyH_mono (fun z' a' ⟨d, hz, ha⟩ => by subst hz ha; exact hk d) _ _ _ _ h
end

end Go.Proofs.YtipndddmjgjgpabDoor
