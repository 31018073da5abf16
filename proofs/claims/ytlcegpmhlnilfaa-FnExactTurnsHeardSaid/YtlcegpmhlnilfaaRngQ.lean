/- A region that draws its order, in the body of a range over a function: whatever is shown of it outside holds there. Own theory. -/
import Derived.Test.YtlcegpmhlnilfaaRngP
import Derived.Test.YtlcegpmhlnilfaaBReg
import Derived.OwnWalkIn
import Derived.OrdersIn
namespace Go.Proofs.Ytlcegpmhlnilfaa
open Go.RowKit

def noDefer (ops : List Oper) : Bool := ops.all fun o => match o.op with | .defer _ => false | _ => true
theorem noDefer_spec {ops : List Oper} (h : noDefer ops = true) (i : Nat) (o : Oper) (ho : ops.toArray[i]? = some o) (c : Call) : o.op ≠ .defer c := by
  intro e
  have hm : o ∈ ops := by
    have : ops[i]? = some o := by simpa using ho
    exact List.mem_of_getElem? this
  have := List.all_eq_true.1 h o hm
  rw [e] at this
  cases this
theorem rowsIn_wide {l n : Nat} {P : Program} {row : String} {args : Array Value} {w : World} {R : Value → World → Prop} (h : Rows P row args w R) : RowsIn (Fence.wide.inRound l) n P row args w R := fun c cs _ => by
  obtain ⟨v, w', r, s⟩ := h c cs
  exact ⟨v, w', r, stepsIn_wide.2 s⟩
theorem wpOpsIn_wide {l n : Nat} {P : Program} {ops : Array Oper} {Q : Exit → Act → World → Prop} (hQ : ¬ LetsOut Q) (hd : ∀ (i : Nat) (o : Oper), ops[i]? = some o → ∀ c, o.op ≠ .defer c) :
    ∀ (is : List Nat) (a : Act) (w : World), wpOps P ops Q is a w → wpOpsIn (Fence.wide.inRound l) n P ops Q is a w
  | [], _, _, h => h
  | i :: rest, a, w, h => by
    have ih := wpOpsIn_wide (l := l) (n := n) (P := P) hQ hd rest
    unfold wpOps at h
    unfold wpOpsIn
    cases ho : ops[i]? with
    | none =>
      simp only [ho] at h ⊢
      exact ih _ _ h
    | some o =>
      simp only [ho] at h ⊢
      by_cases hw : Region.wanted o (yielded ops a.tmps) = true
      · rw [if_pos hw] at h ⊢
        rcases h with h | ⟨_, h⟩
        case inr => exact absurd h hQ
        refine ⟨fun _ _ => trivial, ?_⟩
        rw [Oper.semAt_plain _ _ _ (hd i o ho)]
        unfold Oper.wp at h
        cases hr : (execOp a.eval o).run P w with
        | ok x w' =>
          rw [hr] at h
          cases x with
          | value v => exact ih _ _ h
          | skip => exact ih _ _ h
          | defer d => exact ih _ _ h
          | enter f args =>
            refine ⟨fun e => (by cases e), CallsIn.inRound l (callsIn_wide.2 ?_)⟩
            refine Calls.mono h ?_
            rintro e w'' he
            cases e with
            | returned v => exact ih _ _ he
            | panicked c => exact he
            | outgrown => exact he
          | row r args =>
            refine ⟨fun e => (by cases e), rowsIn_wide ?_⟩
            exact Rows.mono h fun v w'' he => ih _ _ he
          | _ => exact h.elim
        | halt x w' =>
          rw [hr] at h
          cases x with
          | panic v => exact h
          | _ => exact h.elim
      · rw [if_neg hw] at h ⊢
        exact ⟨fun _ _ => trivial, ih _ _ h⟩
theorem wpIn_region_of {l n id : Nat} {P : Program} {L : List Oper} {Q : Exit → Act → World → Prop} {a : Act} {w : World} (hm : P.follows .mixedOrders = true) (hQ : ¬ LetsOut Q) (hd : noDefer L = true)
    (h : wpAny P .any L.toArray Q L.toArray.size (Array.replicate L.toArray.size false) a w.drew) : (Code.region id L.toArray true).wpIn (Fence.wide.inRound l) n P Q a w :=
  wpIn_region_draw fun t => by
    have := wpAny_sound (P := P) (md := .any) (ops := L.toArray) (Q := Q) L.toArray.size t _ a _ h
    refine wpOpsIn_wide hQ (noDefer_spec hd) _ _ _ ?_
    simp only [Region.schedule, hm, Bool.true_or, if_true]
    exact this
section
variable {Z : Type} {P : Program} {C : Z → World → Prop} {S : Nat → Bool}
/-- RegionH's theorem, in a round. -/
theorem wpIn_region_H {k n id : Nat} {l : List Oper} {Q : Exit → Act → World → Prop} {a AF : Act} {w : World} (is : List Nat) (z0 : Z) (hQ : ¬ LetsOut Q) (hdf : noDefer l = true) (hm : P.follows .mixedOrders = true) (hs : Region.noSelect l.toArray = true)
    (hH : headI .any l.toArray S is (Array.replicate l.toArray.size false) = true) (hA : agreeI l is (pickL l is)) (hd : dstsH (pickL l is) a.tmps.size = true) (hn : is.length ≤ l.length) (hC : C z0 w.drew)
    (h : ∀ z, wpQuiet P l.toArray (C z) (fun a' => a' = AF) (pickL l is) a)
    (H : wpAnyH P .any l.toArray C S (fun z a' => ∀ w', C z w' → Q .normal a' w') (l.length - is.length) (listedI is (Array.replicate l.toArray.size false)) z0 AF) :
    (Code.region id l.toArray true).wpIn (Fence.wide.inRound k) n P Q a w := by
  refine wpIn_region_of hm hQ hdf (wpAny_of_H (C := C) (S := S) (Q := fun z a' => ∀ w', C z w' → Q .normal a' w') (fun _ _ w' hc hq => hq w' hc) _ _ z0 _ _ hC ?_)
  have := wpAnyH_head (P := P) (md := .any) (L := l) (C := C) (S := S) hs (Q := fun z a' => ∀ w', C z w' → Q .normal a' w') z0 is (pickL l is) (Array.replicate l.toArray.size false) z0 a hA hH hd h H
  rwa [show is.length + (l.length - is.length) = l.toArray.size by simp; omega] at this
end
end Go.Proofs.Ytlcegpmhlnilfaa
