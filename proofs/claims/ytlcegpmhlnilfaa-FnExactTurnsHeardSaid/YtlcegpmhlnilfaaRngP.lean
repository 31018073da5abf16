/- A range over a function whose iterator writes cells of its own between the rounds: they lie in blocks from the loop's begin on and below a bound that is known ahead of the first round. Own theory, after Derived.RangeFuncKeeps. -/
import Derived.RangeFuncKeeps
import Derived.RangeFuncFrom
import Derived.RangeFuncBound
import Derived.RangeFuncCalls
import Derived.RangeFuncLeaves
import Derived.Test.YtlcegpmhlnilfaaBRd
namespace Go.Proofs.Ytlcegpmhlnilfaa
open Go.RowKit

/-- What a change of the iterator's own blocks (from B on, below n2) leaves as it is. -/
def AbidesIn {β : Type} (B n2 : Nat) (J : β → World → Prop) : Prop := ∀ s W W' row, J s W → W.grownBy W' row → (∀ r, row = some r → B ≤ r ∧ r < n2) → J s W'
/-- The contract: n2 bounds the iterator's own blocks; what is handed to a round is a list of numbers, made since the round before. -/
def SeqStopsP (F : Fence) (n : Nat) (P : Program) (g : Nat) (lb : Array Value) (Kp : Nat → Nat → World → World → Prop) (S Sp : List (List Int) → Prop) (T0 : List (List Int)) (w : World) : Prop :=
  ∀ (l : Nat) (J Jx : Nat → List (List Int) → World → Prop) (W : World), Below w.heap.size w W → (∀ n2, AbidesIn W.heap.size n2 (J n2)) → (∀ n2, AbidesIn W.heap.size n2 (Jx n2)) →
    (∀ n2 pre v xs W0 W1, J n2 pre W0 → W.heap.size ≤ n2 → n2 ≤ W0.heap.size → Below W0.heap.size W0 W1 → Own W1 W0.heap.size v xs → pre ++ [xs] <+: T0 → YieldAt F (n - 1) P l #[v] W1 fun e W' =>
      (e = .returned (.bool true) ∧ J n2 (pre ++ [xs]) W' ∧ Kp W.heap.size n2 W1 W') ∨ (e = .returned (.bool false) ∧ Jx n2 (pre ++ [xs]) W')) →
    (∀ W', Below W.heap.size W W' → J W'.heap.size [] W') →
    CallsIn F n P g (#[.func (.yield l) #[] #[]] ++ lb) W fun e W' => (∃ v, e = .returned v) ∧ ∃ n2, W.heap.size ≤ n2 ∧ ((∃ xs, S xs ∧ J n2 xs W') ∨ (∃ pre, Sp pre ∧ Jx n2 pre W'))
/-- How the body of a round may be left. -/
def ownPostP (Kp : World → World → Prop) (I : List (List Int) → World → Prop) (Ix : Code → List (List Int) → World → Prop) (xs : List (List Int)) (W : World) : Exit → Act → World → Prop
  | .normal, _, W' => KeepsOthers W W' ∧ Kp W W' ∧ I xs W'
  | .ret, _, W' => KeepsOthers W W' ∧ Ix .ret xs W'
  | .exit id, _, W' => KeepsOthers W W' ∧ Ix (.exit id) xs W'
  | .goto t, _, W' => KeepsOthers W W' ∧ Ix (.goto t) xs W'
  | .panic _, _, _ => False
  | .outgrown, _, _ => False

variable {F : Fence} {n : Nat} {P : Program}
set_option maxHeartbeats 1600000 in
theorem wpIn_rangeFunc_ownP {g : Operand} {ps : Array Tmp} {assign body : Code} {Q : Exit → Act → World → Prop} {a : Act} {w : World}
    (hro : F.round = none) (h1 : 1 ≤ n) {gf : Nat} {lb : Array Value} (hg : a.eval g = .func (.func gf) #[] lb) (hFg : F.fn gf) (eg : ∀ args w, (callFunc gf args).run P w = .ok (.enter gf args) w)
    {Kp : Nat → Nat → World → World → Prop} {S Sp : List (List Int) → Prop} {T0 : List (List Int)} {w0 : World} (hseq : SeqStopsP F (n - 1) P gf lb Kp S Sp T0 w0)
    (hKt : ∀ {n1 n2 : Nat} {A B C : World}, Kp n1 n2 A B → Kp n1 n2 B C → Kp n1 n2 A C) (hKb : ∀ (n1 n2 : Nat) (W : World) (l : Nat) (o o' : Obj), l < n1 → W.heap[l]? = some o → o.isCells = false → o.isWalk = false → Kp n1 n2 W (W.putObj l o')) (hb0 : Below w0.heap.size w0 w) (hps : ps.size = 1)
    (I : Nat → List (List Int) → World → Prop) (Ix : Nat → Code → List (List Int) → World → Prop) (hI : ∀ n2, OwnFrom w.heap.size (I n2)) (hIx : ∀ n2 c, OwnFrom w.heap.size (Ix n2 c))
    (hIa : ∀ n2, AbidesIn (w.heap.size + 2) n2 (I n2)) (hIxa : ∀ n2 c, AbidesIn (w.heap.size + 2) n2 (Ix n2 c))
    (h0 : ∀ W1, Below w.heap.size w W1 → w.heap.size + 2 ≤ W1.heap.size → I W1.heap.size [] W1) (a₁ : Value → Act)
    (hassign : ∀ (l : Nat) (x : Value) (W : World) (K : Act → World → Prop), K (a₁ x) W →
      assign.wpIn (F.inRound l) (n - 1 - 1) P (Exit.then K (fun _ _ _ => False)) { tmps := (ps.zip #[x]).foldl (fun t (p, v) => t.setIfInBounds p v) a.tmps, defers := [] } W)
    (hbody : ∀ (l n2 : Nat) (pre : List (List Int)) (v : Value) (xs : List Int) (W0 W : World), I n2 pre W0 → w.heap.size ≤ l → l < w.heap.size + 2 → w.heap.size + 2 ≤ n2 → n2 ≤ W0.heap.size → W0.grownBy W (some l) → Own W W0.heap.size v xs → pre ++ [xs] <+: T0 →
      body.wpIn (F.inRound l) (n - 1 - 1) P (ownPostP (Kp (w.heap.size + 2) n2) (I n2) (Ix n2) (pre ++ [xs]) W) (a₁ v) W)
    (hdone : ∀ (D n2 : Nat) (xs : List (List Int)) (W : World), w.heap.size ≤ D → D < n2 → S xs → I n2 xs W → W.heap[D]? = some (.deferred (some [])) → Q .normal { a with defers := { target := .collected D, args := #[] } :: a.defers } W)
    (hstop : ∀ (D n2 : Nat) (c : Code) (pre : List (List Int)) (W : World), w.heap.size ≤ D → D < n2 → Sp pre → Ix n2 c pre W → W.heap[D]? = some (.deferred (some [])) → c.wpIn F n P Q { a with defers := { target := .collected D, args := #[] } :: a.defers } W) :
    (Code.rangeFunc g ps assign body).wpIn F n P Q a w := by
  refine wpIn_rangeFunc ?_
  intro fn hfn
  rw [hro]
  obtain ⟨rec, hrec⟩ : ∃ rec : LoopState → Option Code → Loop, rec = fun st pe => { state := st, pending := pe, fn, tmps := a.tmps, params := ps, assign, body, defers := w.heap.size } := ⟨_, rfl⟩
  obtain ⟨W1, hW1⟩ : ∃ W1, (w.alloc (.deferred (some []))).alloc (.loop (rec .ready none)) = W1 := ⟨_, rfl⟩
  have hL1 : W1.heap[w.heap.size + 1]? = some (.loop (rec .ready none)) := by
    rw [← hW1]; have := World.alloc_heap_new (w.alloc (.deferred (some []))) (.loop (rec .ready none)); rwa [World.size_alloc] at this
  have hK1 : W1.heap[w.heap.size]? = some (.deferred (some [])) := by
    rw [← hW1]; exact (Below.heap_alloc _ _ _ (by simp)).trans (World.alloc_heap_new w _)
  have hz1 : W1.heap.size = w.heap.size + 2 := by rw [← hW1]; simp
  have hw1 : Below w.heap.size w W1 := by
    rw [← hW1]; exact ((Below.refl _ w).alloc (Nat.le_refl _) _).alloc (by simp) _
  have hb1 : Below w0.heap.size w0 W1 := hb0.trans (hw1.mono hb0.size)
  refine ⟨w.heap.size + 1, [{ target := .collected w.heap.size, args := #[] }], W1, { target := .fn (.func gf) lb, args := #[.func (.yield (w.heap.size + 1)) #[] #[]] }, W1, gf,
    #[.func (.yield (w.heap.size + 1)) #[] #[]] ++ lb, W1, ?_, ?_, ?_, ?_, fun _ => h1, ?_⟩
  · rw [← hW1, hrec]; exact run_enterLoop_outer _ _ _ _ _
  · simp only [resolve, hg]
    simp [go_sem]
  · intro f' hf'; simp [Target.leads] at hf'; subst hf'; exact hFg
  · simp [invoke, go_sem, eg]
  · have keep : ∀ {A B : World} {row : Option Nat} {n2 k : Nat} {o : Obj}, A.grownBy B row → (∀ r, row = some r → W1.heap.size ≤ r ∧ r < n2) → k < W1.heap.size → A.heap[k]? = some o → B.heap[k]? = some o := fun hg' hr hk ho =>
      (hg'.block _ (Array.getElem?_eq_some_iff.1 ho).1 (fun e => by have := (hr _ e.symm).1; omega)).trans ho
    refine (hseq (w.heap.size + 1)
      (fun n2 pre W => I n2 pre W ∧ W.heap[w.heap.size + 1]? = some (.loop (rec .ready none)) ∧ W.heap[w.heap.size]? = some (.deferred (some [])))
      (fun n2 pre W => ∃ c, Ix n2 c pre W ∧ W.heap[w.heap.size + 1]? = some (.loop (rec .done (some c))) ∧ W.heap[w.heap.size]? = some (.deferred (some [])))
      W1 hb1
      (fun n2 s A B row hs hg' hr => ⟨hIa n2 s A B row hs.1 hg' (fun r e => by have := hr r e; omega), keep hg' hr (by omega) hs.2.1, keep hg' hr (by omega) hs.2.2⟩)
      (fun n2 s A B row hs hg' hr => by
        obtain ⟨c, hc, hl, hk⟩ := hs
        exact ⟨c, hIxa n2 c s A B row hc hg' (fun r e => by have := hr r e; omega), keep hg' hr (by omega) hl, keep hg' hr (by omega) hk⟩)
      ?_ (fun W' hb => ⟨h0 W' (hw1.trans (hb.mono hw1.size)) (by have := hb.size; omega), (hb.block _ (by omega)).trans hL1, (hb.block _ (by omega)).trans hK1⟩)).mono ?_
    · -- one round
      rintro n2 pre v xs W0 W ⟨hi, hl0, hk0⟩ hn1 hn2 hbW ho hlen
      have hs0 : w.heap.size + 1 < W0.heap.size := by omega
      have hl : W.heap[w.heap.size + 1]? = some (.loop (rec .ready none)) := (hbW.block _ hs0).trans hl0
      have hk : W.heap[w.heap.size]? = some (.deferred (some [])) := (hbW.block _ (by omega)).trans hk0
      have hlt : w.heap.size + 1 < W.heap.size := (Array.getElem?_eq_some_iff.1 hl).1
      have hy := run_yield (P := P) (args := #[v]) hl (by rw [hrec]; exact hps.symm)
      rw [hrec] at hy
      refine ⟨fn, _, assign, body, hy, roundIn_of_wpIn hfn (hassign _ v W _ ⟨_, run_beginRound hl (by rw [hrec]), ?_⟩)⟩
      have hl2 : (W.putObj (w.heap.size + 1) (.loop { rec .ready none with state := .busy })).heap[w.heap.size + 1]? = some (.loop { rec .ready none with state := .busy }) := World.putObj_heap_same hlt
      have hk2 : (W.putObj (w.heap.size + 1) (.loop { rec .ready none with state := .busy })).heap[w.heap.size]? = some (.deferred (some [])) := (World.putObj_heap_other (by omega)).trans hk
      have hw2 : Kp W1.heap.size n2 W (W.putObj (w.heap.size + 1) (.loop { rec .ready none with state := .busy })) := hKb _ _ _ _ _ _ (by omega) hl rfl rfl
      have hgW : W0.grownBy (W.putObj (w.heap.size + 1) (.loop { rec .ready none with state := .busy })) (some (w.heap.size + 1)) := by
        have g2 := grownBy_putObj' W (w.heap.size + 1) (.loop { rec .ready none with state := .busy })
        exact ⟨g2.os.trans hbW.os, g2.tape.trans hbW.tape, g2.output.trans hbW.output, Nat.le_trans hbW.size g2.size, fun q a b => (g2.block q (Nat.lt_of_lt_of_le a hbW.size) b).trans (hbW.block q a)⟩
      have hoW : Own (W.putObj (w.heap.size + 1) (.loop { rec .ready none with state := .busy })) W0.heap.size v xs := own_heap ho fun q hq => World.putObj_heap_other (by have := (ho.lt q hq).1; omega)
      refine wpIn_mono (hbody _ n2 pre v xs W0 _ hi (by omega) (by omega) (by omega) hn2 hgW hoW hlen) ?_
      have fin : ∀ (jump : Option Code) (W3 : World), KeepsOthers (W.putObj (w.heap.size + 1) (.loop { rec .ready none with state := .busy })) W3 →
          (Instr.endRound (w.heap.size + 1) jump).run P W3 = .ok (.bool jump.isNone) (W3.putObj (w.heap.size + 1) (.loop (rec (if jump.isNone then .ready else .done) jump))) ∧
          W3.heap[w.heap.size + 1]? = some (.loop { rec .ready none with state := .busy }) ∧
          (W3.putObj (w.heap.size + 1) (.loop (rec (if jump.isNone then .ready else .done) jump))).heap[w.heap.size + 1]? = some (.loop (rec (if jump.isNone then .ready else .done) jump)) ∧
          (W3.putObj (w.heap.size + 1) (.loop (rec (if jump.isNone then .ready else .done) jump))).heap[w.heap.size]? = some (.deferred (some [])) := fun jump W3 hk3 => by
        have hl3 := hk3.same _ _ hl2 rfl
        have := run_endRound (P := P) jump hl3
        rw [hrec] at this ⊢
        exact ⟨this, by rw [hrec] at hl3; exact hl3, World.putObj_heap_same (Array.getElem?_eq_some_iff.1 hl3).1, (World.putObj_heap_other (by omega)).trans (hk3.same _ _ hk2 rfl)⟩
      rintro e a3 W3 hp
      cases e with
      | normal =>
        obtain ⟨hk3, hkp3, hi3⟩ := hp
        obtain ⟨hr, hl3, hl4, hk4⟩ := fin none W3 hk3
        rw [← hz1] at hkp3
        exact ⟨_, _, hr, .inl ⟨rfl, ⟨(hI n2).putObj _ hi3 (by omega) hl3 rfl, hl4, hk4⟩, hKt (hKt hw2 hkp3) (hKb _ _ _ _ _ _ (by omega) hl3 rfl rfl)⟩⟩
      | ret =>
        obtain ⟨hk3, hi3⟩ := hp
        obtain ⟨hr, hl3, hl4, hk4⟩ := fin (some .ret) W3 hk3
        exact ⟨_, _, hr, .inr ⟨rfl, .ret, (hIx n2 _).putObj _ hi3 (by omega) hl3 rfl, hl4, hk4⟩⟩
      | exit id =>
        obtain ⟨hk3, hi3⟩ := hp
        obtain ⟨hr, hl3, hl4, hk4⟩ := fin (some (.exit id)) W3 hk3
        exact ⟨_, _, hr, .inr ⟨rfl, .exit id, (hIx n2 _).putObj _ hi3 (by omega) hl3 rfl, hl4, hk4⟩⟩
      | goto t =>
        obtain ⟨hk3, hi3⟩ := hp
        obtain ⟨hr, hl3, hl4, hk4⟩ := fin (some (.goto t)) W3 hk3
        exact ⟨_, _, hr, .inr ⟨rfl, .goto t, (hIx n2 _).putObj _ hi3 (by omega) hl3 rfl, hl4, hk4⟩⟩
      | panic ch => exact hp.elim
      | outgrown => exact hp.elim
    · -- behind the iterator
      rintro e W2 ⟨⟨v, rfl⟩, n2, hn2, (⟨xs, hS, hi, hl, hk⟩ | ⟨pre, hSp, c, hi, hl, hk⟩)⟩
      · exact ⟨none, _, by have := run_endLoop (P := P) hl (by rw [hrec]; simp); rw [hrec] at this; exact this, hdone _ n2 xs _ (Nat.le_refl _) (by omega) hS ((hI n2).putObj _ hi (by omega) hl rfl) ((World.putObj_heap_other (by omega)).trans hk)⟩
      · exact ⟨some c, _, by have := run_endLoop (P := P) hl (by rw [hrec]; simp); rw [hrec] at this; exact this, hstop _ n2 c pre _ (Nat.le_refl _) (by omega) hSp ((hIx n2 c).putObj _ hi (by omega) hl rfl) ((World.putObj_heap_other (by omega)).trans hk)⟩
end Go.Proofs.Ytlcegpmhlnilfaa
