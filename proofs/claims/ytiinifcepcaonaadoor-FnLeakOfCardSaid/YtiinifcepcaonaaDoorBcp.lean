/- A list of notes copied behind an empty one, inside a region that draws its order. -/
import Derived.Test.YtiinifcepcaonaaDoorNtC
import Derived.Test.YtiinifcepcaonaaDoorBReg
import Derived.Test.YtiinifcepcaonaaDoorBSol
import Derived.Laws.AppendOwnNone
namespace Go.Proofs.YtiinifcepcaonaaDoor
open Go.RowKit

theorem nts_cells {w : World} {g n c : Nat} {ns : List Nt} (h : Nts w (.slice (some ⟨g, 0, none⟩) n c) ns) (j : Nat) (u : Value) (hj : (ns.flatMap encN)[j]? = some u) : w.cell? ((⟨g, 0, none⟩ : Addr).add j) = some u := by
  obtain ⟨a, c', e, k⟩ := h.opened
  have hjl : j < ns.length * 5 := by
    by_cases hx : j < ns.length * 5
    · exact hx
    · rw [List.getElem?_eq_none (by rw [flatN_len]; omega)] at hj; cases hj
  rw [flatN_get _ j hjl] at hj
  obtain ⟨G, e', _, q0, q1, q2, q3, q4⟩ := k.get (j / 5) (by omega)
  cases e; cases e'
  rw [show (⟨g, 0, none⟩ : Addr).add j = ⟨g, j, none⟩ by unfold Addr.add; split <;> simp_all]
  have h5 : j % 5 < 5 := Nat.mod_lt _ (by omega)
  have hd : j = j / 5 * 5 + j % 5 := by omega
  obtain ⟨q, hq⟩ : ∃ q, j / 5 = q := ⟨_, rfl⟩
  obtain ⟨r, hr⟩ : ∃ r, j % 5 = r := ⟨_, rfl⟩
  rw [hq] at q0 q1 q2 q3 q4
  rw [hq, hr] at hd hj
  rw [hr] at h5
  subst hd
  match r, h5 with
  | 0, _ => simp [encN] at hj; rw [← hj]; exact q0
  | 1, _ => simp [encN] at hj; rw [← hj]; exact q1
  | 2, _ => simp [encN] at hj; rw [← hj]; exact q2
  | 3, _ => simp [encN] at hj; rw [← hj]; exact q3
  | 4, _ => simp [encN] at hj; rw [← hj]; exact q4
/-- What append does behind an empty list of the call's own. -/
theorem run_appN {w : World} {o : Oper} {a : Act} {B : Nat} {v u : Value} {ns : List Nt} (s x : Operand) (hop : o.op = .call { callee := .builtin .append, args := #[s, x], argTypes := #[27, 27] })
    (hs : a.eval s = v) (hown : OwnN w B v []) (hx : a.eval x = u) (hu : Nts w u ns) (hl : ns.length ≤ 2000000) (hB : B ≤ w.heap.size) :
    ∃ v' w', (execOp a.eval o).run Tryd.prog w = .ok (.value v') w' ∧ OwnN w' B v' ns ∧ w.grownBy w' v.ownBlock ∧ (v'.ownBlock = v.ownBlock ∨ v'.ownBlock = some w.heap.size) := by
  obtain ⟨i0, hi, hz0, hz1, hz2⟩ := info_parts infoNote
  rcases id hu with ⟨rfl, rfl⟩ | ⟨g, cap, rfl, _, _, _, _⟩
  · have hrun := run_append_owned_none (P := Tryd.prog) (w := w) B 27 o.type 47 i0 5 Tryd.underlying27 hi v 0 [] hown
    refine ⟨v, w, ?_, hown, ⟨rfl, rfl, rfl, Nat.le_refl _, fun _ _ _ => rfl⟩, .inl rfl⟩
    simp [execOp, hop, resolve, invoke, builtin, hs, hx, hrun, Result.andThen]
  · obtain ⟨v', w', hr, k1, k2, k3⟩ := run_append_here (P := Tryd.prog) (w := w) (o := o) (a := a) s x 27 hop B 47 i0 (.agg #[.int .i64 0, .int .i64 0, .int .i64 0, .int .i64 0, .int .i64 0]) 5 40 Tryd.underlying27 hi hz0 hz1 hz2 rfl (by decide) v 0 [] hs hown ⟨g, 0, none⟩ ns.length cap (ns.flatMap encN) hx (flatN_len _) (nts_cells hu)
      (fun u hu' => by
        obtain ⟨y, _, hy⟩ := List.mem_flatMap.1 hu'
        simp [encN] at hy
        rcases hy with rfl | rfl | rfl | rfl | rfl <;> rfl) (by unfold maxLen; omega) (by omega) hB
    exact ⟨v', w', hr, by simpa using k1, k2, k3⟩

section
variable {ops : Array Oper} {md : Region.Mode} {Z : Type} {C : Z → World → Prop} {S : Nat → Bool}
theorem hOp_appN {K : Z → Act → Prop} {i : Nat} {z : Z} {a : Act} {o : Oper} {d : Option Tmp} {v u : Value} {ns : List Nt} {B : Nat} (s x : Operand) (hd : o.dst = d) (hS : S i = true) (ho : ops[i]? = some o) (hw : Region.wanted o (yielded ops a.tmps) = true)
    (hop : o.op = .call { callee := .builtin .append, args := #[s, x], argTypes := #[27, 27] }) (hs : a.eval s = v) (hx : a.eval x = u) (hl : ns.length ≤ 2000000)
    (h : ∀ w, C z w → OwnN w B v [] ∧ Nts w u ns ∧ B ≤ w.heap.size ∧ ∀ v' w', OwnN w' B v' ns → w.grownBy w' v.ownBlock → (v'.ownBlock = v.ownBlock ∨ v'.ownBlock = some w.heap.size) → ∃ z', C z' w' ∧ K z' (a.put d v')) : hOp Tryd.prog ops C S z i K a :=
  hOp_special hd hS ho hw fun w hc => by
    obtain ⟨h1, h2, h3, h4⟩ := h w hc
    obtain ⟨v', w', hr, k1, k2, k3⟩ := run_appN s x hop hs h1 hx h2 hl h3
    obtain ⟨z', hc', hk⟩ := h4 v' w' k1 k2 k3
    exact ⟨v', w', z', hr, hc', hk⟩
theorem wpAnyH_appN {Q : Z → Act → Prop} {fuel i : Nat} {listed : Array Bool} {z : Z} {a : Act} {o : Oper} {d : Option Tmp} {v u : Value} {ns : List Nt} {B : Nat} (s x : Operand) (hd : o.dst = d) (hr : Region.ready md ops listed = [i]) (hS : S i = true) (ho : ops[i]? = some o) (hw : Region.wanted o (yielded ops a.tmps) = true)
    (hop : o.op = .call { callee := .builtin .append, args := #[s, x], argTypes := #[27, 27] }) (hs : a.eval s = v) (hx : a.eval x = u) (hl : ns.length ≤ 2000000)
    (h : ∀ w, C z w → OwnN w B v [] ∧ Nts w u ns ∧ B ≤ w.heap.size ∧ ∀ v' w', OwnN w' B v' ns → w.grownBy w' v.ownBlock → (v'.ownBlock = v.ownBlock ∨ v'.ownBlock = some w.heap.size) → ∃ z', C z' w' ∧ wpAnyH Tryd.prog md ops C S Q fuel (listed.setIfInBounds i true) z' (a.put d v')) : wpAnyH Tryd.prog md ops C S Q (fuel + 1) listed z a :=
  wpAnyH_special hd hr hS ho hw fun w hc => by
    obtain ⟨h1, h2, h3, h4⟩ := h w hc
    obtain ⟨v', w', hr', k1, k2, k3⟩ := run_appN s x hop hs h1 hx h2 hl h3
    obtain ⟨z', hc', hk⟩ := h4 v' w' k1 k2 k3
    exact ⟨v', w', z', .inl hr', hc', hk⟩
end
/-- While a board is copied: the list of notes so far, the box that is to hold the board. -/
structure Zc (W : World) (s : Option (Value × List Nt)) (b : Option (Nat × List Value)) (w' : World) : Prop where
  be : Below W.heap.size W w'
  ow : ∀ v l, s = some (v, l) → OwnN w' W.heap.size v l
  bx : ∀ N cs, b = some (N, cs) → W.heap.size ≤ N ∧ Box w' N cs
  ap : ∀ v l N cs, s = some (v, l) → b = some (N, cs) → v.ownBlock ≠ some N
section
variable {W w' w'' : World} {s : Option (Value × List Nt)} {b : Option (Nat × List Value)}
theorem Zc.start (h : Below W.heap.size W w') : Zc W none none w' := ⟨h, fun _ _ e => (by cases e), fun _ _ e => (by cases e), fun _ _ _ _ e => (by cases e)⟩
theorem Zc.build (h : Zc W none b w') : Zc W (some (.slice (some ⟨w'.heap.size, 0, none⟩) 0 0, [])) b (w'.alloc (.cells #[] 47)) := by
  have hb := below_grow w' (.cells #[] 47)
  refine ⟨Below.on h.be hb, fun v l e => ?_, fun N cs e => ⟨(h.bx N cs e).1, (h.bx N cs e).2.on hb⟩, fun v l N cs e e2 => ?_⟩
  · cases e
    exact World.ownsRow_made w' #[] 0 h.be.size (Nat.zero_le _) rfl
  · cases e
    have := (h.bx N cs e2).2.lt
    simp [Value.ownBlock]; omega
theorem Zc.made (h : Zc W s none w') (cs : List Value) (T : TypeId) : Zc W s (some (w'.heap.size, cs)) (w'.alloc (.cells cs.toArray T)) := by
  have hb := below_grow w' (.cells cs.toArray T)
  refine ⟨Below.on h.be hb, fun v l e => row5_below (h.ow v l e) hb, fun N cs' e => ?_, fun v l N cs' e e2 h3 => ?_⟩
  · cases e
    exact ⟨h.be.size, Box.made w' cs T⟩
  · cases e2
    have := ((h.ow v l e).lt _ h3).2
    omega
theorem Zc.app {v v' : Value} {l : List Nt} (h : Zc W (some (v, [])) b w') (ho : OwnN w'' W.heap.size v' l) (hg : w'.grownBy w'' v.ownBlock) (hk : v'.ownBlock = v.ownBlock ∨ v'.ownBlock = some w'.heap.size) : Zc W (some (v', l)) b w'' := by
  refine ⟨h.be.grown hg h.be.size fun k hk' => ((h.ow v [] rfl).lt k hk').1, fun _ _ e => (by cases e; exact ho), fun N cs e => ?_, fun _ _ N cs e e2 h3 => ?_⟩
  · obtain ⟨h1, T, h2⟩ := h.bx N cs e
    have hl : N < w'.heap.size := (Array.getElem?_eq_some_iff.1 h2).1
    exact ⟨h1, T, by rw [hg.block N hl fun e' => h.ap v [] N cs rfl e e'.symm]; exact h2⟩
  · cases e
    rcases hk with hk | hk
    · exact h.ap v [] N cs rfl e2 (by rw [← hk]; exact h3)
    · rw [hk] at h3
      have := (h.bx N cs e2).2.lt
      cases h3; omega
theorem Zc.put {N : Nat} {cs : List Value} (h : Zc W s (some (N, cs)) w') (j : Nat) (y : Value) : Zc W s (some (N, cs.set j y)) (w'.setCell ⟨N, j, none⟩ y) := by
  obtain ⟨h1, h2⟩ := h.bx N cs rfl
  refine ⟨h.be.setCell h1 _, fun v l e => row5_heap (h.ow v l e) fun k hk => Below.heap_setCell _ _ _ _ (by show k ≠ N; intro e'; subst e'; exact h.ap v l k cs e rfl hk), fun N' cs' e => ?_, fun v l N' cs' e e2 => ?_⟩
  · cases e; exact ⟨h1, h2.set j y⟩
  · cases e2; exact h.ap v l N cs e rfl
end
end Go.Proofs.YtiinifcepcaonaaDoor
