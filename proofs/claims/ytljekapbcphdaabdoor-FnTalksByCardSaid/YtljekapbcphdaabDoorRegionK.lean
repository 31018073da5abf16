/- A talk is answered and put into a box of its own, in a region that draws its order: the box may be made before. -/
import Derived.Test.YtljekapbcphdaabDoorRegionJ
import Derived.Test.YtljekapbcphdaabDoorDrawCl
import Derived.Test.YtljekapbcphdaabDoorMadI
namespace Go.Proofs.YtljekapbcphdaabDoor
open Go.RowKit

section
variable {P : Program} {ops : Array Oper} {md : Region.Mode} {Z : Type} {C : Z → World → Prop} {S : Nat → Bool}
/-- A call, one of those that may come up. -/
theorem hOp_call {K : Z → Act → Prop} {i : Nat} {z : Z} {a : Act} {o : Oper} {d : Option Tmp} (f : FuncId) (args : Array Value) (hd : o.dst = d) (hS : S i = true) (ho : ops[i]? = some o) (hw : Region.wanted o (yielded ops a.tmps) = true)
    (hrun : ∀ w, (execOp a.eval o).run P w = .ok (.enter f args) w)
    (h : ∀ w, C z w → Calls P f args w fun e w' => ∃ v, e = .returned v ∧ ∃ z', C z' w' ∧ K z' (a.put d v)) : hOp P ops C S z i K a := by
  unfold hOp
  rw [if_pos hS]
  subst hd
  refine ⟨o, ho, hw, fun w hc => ?_⟩
  rw [hrun w]
  exact h w hc
end

section
variable {P : Program} {ops : Array Oper} {md : Region.Mode} {Z : Type} {C : Z → World → Prop} {S : Nat → Bool}
theorem wpAnyH_mono {Q Q' : Z → Act → Prop} (h : ∀ z a, Q z a → Q' z a) : ∀ (fuel : Nat) (listed : Array Bool) (z : Z) (a : Act), wpAnyH P md ops C S Q fuel listed z a → wpAnyH P md ops C S Q' fuel listed z a
  | 0, _, _, _, ⟨x, y⟩ => ⟨x, h _ _ y⟩
  | n + 1, _, _, _, ⟨x, y⟩ => ⟨fun e => h _ _ (x e), fun i hi => hOp_mono (fun z a => wpAnyH_mono h n _ z a) (y i hi)⟩
/-- Whatever the order, it ends in one of the forms pf d, with the ghost zf d. -/
theorem wpAnyH_key {D : Type} {Q : Z → Act → Prop} {fuel : Nat} {listed : Array Bool} {z : Z} {a : Act} (zf : D → Z) (pf : D → Act → Act)
    (h : wpAnyH P md ops C S (fun z' a' => ∃ d, z' = zf d ∧ a' = pf d a) fuel listed z a) (hk : ∀ d, Q (zf d) (pf d a)) : wpAnyH P md ops C S Q fuel listed z a :=
  wpAnyH_mono (fun z' a' ⟨d, hz, ha⟩ => by subst hz ha; exact hk d) _ _ _ _ h
end

/-- A talk (r: answered or not yet) and its box (b: made or not yet; written or not yet), in worlds that keep B. -/
def Wz (B : World → Prop) (lo : Nat) (q : Int) (ss ts : List Int) (r : Option (Value × Value)) (b : Option (Nat × Bool)) (w' : World) : Prop :=
  B w' ∧ lo ≤ w'.heap.size ∧ (∀ p, r = some p → Own w' lo p.1 ss ∧ Own w' lo p.2 ts ∧ ∀ k, p.1.ownBlock = some k → p.2.ownBlock = some k → False) ∧
    ∀ c, b = some c → lo ≤ c.1 ∧ (∀ p, r = some p → ∀ k, p.1.ownBlock = some k ∨ p.2.ownBlock = some k → k ≠ c.1) ∧
      Box w' c.1 (match c.2, r with | true, some p => [p.1, .int .i64 q, p.2] | _, _ => [.slice none 0 0, .int .i64 0, .slice none 0 0])
section
variable {B : World → Prop} {lo : Nat} {q : Int} {ss ts : List Int} {r : Option (Value × Value)} {b : Option (Nat × Bool)} {w' w'' : World}
theorem Wz.base (h : Wz B lo q ss ts r b w') : B w' := h.1
theorem Wz.start (h : B w') (hl : lo ≤ w'.heap.size) : Wz B lo q ss ts none none w' := ⟨h, hl, (fun p hp => by cases hp), (fun c hc => by cases hc)⟩
theorem Wz.on (hB : ∀ w1 w2, B w1 → Below w1.heap.size w1 w2 → B w2) (h : Wz B lo q ss ts r b w') (hb : Below w'.heap.size w' w'') : Wz B lo q ss ts r b w'' :=
  ⟨hB _ _ h.1 hb, Nat.le_trans h.2.1 hb.size, fun p hp => ⟨own_below (h.2.2.1 p hp).1 hb, own_below (h.2.2.1 p hp).2.1 hb, (h.2.2.1 p hp).2.2⟩, fun c hc => ⟨(h.2.2.2 c hc).1, (h.2.2.2 c hc).2.1, (h.2.2.2 c hc).2.2.on hb⟩⟩
theorem Wz.call (hB : ∀ w1 w2, B w1 → Below w1.heap.size w1 w2 → B w2) {sv tv : Value} (h : Wz B lo q ss ts none b w') (hs : ∀ N, b ≠ some (N, true)) (hb : Below w'.heap.size w' w'') (ho : OwnW w'' w'.heap.size w''.heap.size sv tv ss ts) : Wz B lo q ss ts (some (sv, tv)) b w'' := by
  refine ⟨hB _ _ h.1 hb, Nat.le_trans h.2.1 hb.size, fun p hp => ?_, fun c hc => ⟨(h.2.2.2 c hc).1, fun p hp k hk => ?_, ?_⟩⟩
  · cases hp; exact ⟨own_mono ho.s h.2.1, own_mono ho.t h.2.1, ho.apart⟩
  · cases hp
    have hl := (h.2.2.2 c hc).2.2.lt
    rcases hk with hk | hk
    · have := (ho.s.lt k hk).1; omega
    · have := (ho.t.lt k hk).1; omega
  · have hx := (h.2.2.2 c hc).2.2.on hb
    obtain ⟨N, t⟩ := c
    cases t
    · exact hx
    · exact absurd hc (hs N)
theorem Wz.make (hB : ∀ w1 w2, B w1 → Below w1.heap.size w1 w2 → B w2) {T : TypeId} (h : Wz B lo q ss ts r none w') : Wz B lo q ss ts r (some (w'.heap.size, false)) (w'.alloc (.cells #[.slice none 0 0, .int .i64 0, .slice none 0 0] T)) := by
  have k := h.on hB (below_grow w' (.cells #[.slice none 0 0, .int .i64 0, .slice none 0 0] T))
  refine ⟨k.1, k.2.1, k.2.2.1, fun c hc => ?_⟩
  cases hc
  refine ⟨h.2.1, fun p hp j hj => ?_, Box.made w' [.slice none 0 0, .int .i64 0, .slice none 0 0] T⟩
  rcases hj with hj | hj
  · have := ((h.2.2.1 p hp).1.lt j hj).2; show j ≠ w'.heap.size; omega
  · have := ((h.2.2.1 p hp).2.1.lt j hj).2; show j ≠ w'.heap.size; omega
theorem Wz.store (hS : ∀ w1 N j v, B w1 → lo ≤ N → B (w1.setCell ⟨N, j, none⟩ v)) {sv tv : Value} {N : Nat} (h : Wz B lo q ss ts (some (sv, tv)) (some (N, false)) w') :
    Wz B lo q ss ts (some (sv, tv)) (some (N, true)) (((w'.setCell ⟨N, 0, none⟩ sv).setCell ⟨N, 1, none⟩ (.int .i64 q)).setCell ⟨N, 2, none⟩ tv) := by
  obtain ⟨h1, h2, h3, h4⟩ := h
  obtain ⟨o1, o2, o3⟩ := h3 _ rfl
  obtain ⟨b1, b2, b3⟩ := h4 _ rfl
  have hst : ∀ k, k ≠ N → (((w'.setCell ⟨N, 0, none⟩ sv).setCell ⟨N, 1, none⟩ (.int .i64 q)).setCell ⟨N, 2, none⟩ tv).heap[k]? = w'.heap[k]? := fun k hk => (Below.heap_setCell _ _ _ _ hk).trans ((Below.heap_setCell _ _ _ _ hk).trans (Below.heap_setCell _ _ _ _ hk))
  refine ⟨hS _ _ _ _ (hS _ _ _ _ (hS _ _ _ _ h1 b1) b1) b1, by simp [World.setCell]; exact h2, fun p hp => ?_, fun c hc => ?_⟩
  · cases hp
    exact ⟨own_heap o1 fun k hk => hst k (b2 _ rfl k (.inl hk)), own_heap o2 fun k hk => hst k (b2 _ rfl k (.inr hk)), o3⟩
  · cases hc
    exact ⟨b1, b2, ((b3.set 0 sv).set 1 (.int .i64 q)).set 2 tv⟩
theorem Wz.drawn {B' : World → Prop} {R : Nat} {q' : Int} {ss' ts' : List Int} (h : Wz B lo q ss ts none b w') (hB : B' w'') (hR : R < lo) (hg : w'.grownBy w'' (some R)) : Wz B' lo q' ss' ts' none b w'' := by
  refine ⟨hB, Nat.le_trans h.2.1 hg.size, (fun p hp => by cases hp), fun c hc => ?_⟩
  obtain ⟨h1, h2, h3⟩ := h.2.2.2 c hc
  refine ⟨h1, (fun p hp => by cases hp), ?_⟩
  have hx := h3.kept (hg.block _ h3.lt fun e => by have := Option.some.inj e; omega)
  obtain ⟨N, t⟩ := c
  cases t
  · exact hx
  · exact hx
/-- Something else is written to. -/
theorem Wz.off {B' : World → Prop} {N' j : Nat} {v : Value} (h : Wz B lo q ss ts r b w') (hB : B' (w'.setCell ⟨N', j, none⟩ v)) (h1 : ∀ p, r = some p → ∀ k, p.1.ownBlock = some k ∨ p.2.ownBlock = some k → k ≠ N') (h2 : ∀ c, b = some c → c.1 ≠ N') : Wz B' lo q ss ts r b (w'.setCell ⟨N', j, none⟩ v) := by
  refine ⟨hB, by simpa [World.setCell] using h.2.1, fun p hp => ?_, fun c hc => ?_⟩
  · obtain ⟨a1, a2, a3⟩ := h.2.2.1 p hp
    exact ⟨own_heap a1 fun k hk => Below.heap_setCell _ _ _ _ (h1 p hp k (.inl hk)), own_heap a2 fun k hk => Below.heap_setCell _ _ _ _ (h1 p hp k (.inr hk)), a3⟩
  · obtain ⟨a1, a2, a3⟩ := h.2.2.2 c hc
    exact ⟨a1, a2, a3.far (h2 c hc) v⟩
theorem Wz.other {B' : World → Prop} (h : Wz B lo q ss ts r b w') (hB : B' w') : Wz B' lo q ss ts r b w' := ⟨hB, h.2⟩
theorem Wz.cells {sv tv : Value} {N : Nat} (h : Wz B lo q ss ts (some (sv, tv)) (some (N, false)) w') : Box w' N [.slice none 0 0, .int .i64 0, .slice none 0 0] := (h.2.2.2 _ rfl).2.2
end
/-- All blocks from B on are new. -/
theorem below_put {B : Nat} {w w1 : World} (h : Below B w w1) {N j : Nat} (hN : B ≤ N) (v : Value) : Below B w (w1.setCell ⟨N, j, none⟩ v) := h.setCell (p := ⟨N, j, none⟩) hN v
end Go.Proofs.YtljekapbcphdaabDoor
