/- SolI, TimI, WokI, RegionJ, RegionL, in one text. -/
import Derived.Test.YtiinifcepcaonaaDoorBCl
import Derived.Test.YtiinifcepcaonaaDoorBReg
import Derived.Lib.SliceRun
/- impl.Solves. -/
namespace Go.Proofs.YtiinifcepcaonaaDoor
open Go.RowKit

/-- A box, and perhaps a list of the call's own. -/
def Kv (w : World) (P : List Value) (T : TypeId) (xs : List Int) (z : Option Value) (w' : World) : Prop := InB w P T w' ∧ ∀ v, z = some v → Own w' (w.heap.size + 1) v xs
theorem Kv.on {w : World} {P : List Value} {T : TypeId} {xs : List Int} {z : Option Value} {w1 w2 : World} (h : Kv w P T xs z w1) (hb : Below w1.heap.size w1 w2) : Kv w P T xs z w2 := ⟨h.1.on hb, fun v hv => own_below (h.2 v hv) hb⟩

end Go.Proofs.YtiinifcepcaonaaDoor

/- impl: saysOk, timesMakes. -/
namespace Go.Proofs.YtiinifcepcaonaaDoor
open Go.RowKit

def saysB (g : Int) (rows : List (List Int)) (makes says : List Int) : Bool := clB g rows makes && (decide (says.length = rows.length) && allEl g says)

end Go.Proofs.YtiinifcepcaonaaDoor

/- impl.WordsOk. -/
namespace Go.Proofs.YtiinifcepcaonaaDoor
open Go.RowKit

/-- A world behind W: the blocks below B are as they were. -/
def InW (W : World) (B : Nat) (w' : World) : Prop := Below B W w' ∧ B ≤ w'.heap.size
theorem InW.on {W w1 w2 : World} {B : Nat} (h : InW W B w1) (hb : Below w1.heap.size w1 w2) : InW W B w2 := ⟨h.1.trans (hb.mono h.2), Nat.le_trans h.2 hb.size⟩
theorem InW.start {W w1 : World} {B : Nat} (hB : B ≤ W.heap.size) (hb : Below W.heap.size W w1) : InW W B w1 := ⟨hb.mono hB, Nat.le_trans hB hb.size⟩
theorem InW.box {W w' : World} {B N : Nat} {cs : List Value} (h : InW W B w') (hb : Box W N cs) (hN : N < B) : Box w' N cs := hb.low h.1 hN
theorem InW.grown {W w1 w2 : World} {B : Nat} {r : Option Nat} (h : InW W B w1) (hg : w1.grownBy w2 r) (hr : ∀ k, r = some k → B ≤ k) : InW W B w2 := ⟨h.1.grown hg h.2 hr, Nat.le_trans h.2 hg.size⟩
/-- Two boxes at a function's head. -/
theorem head2 (w : World) (P R : List Value) (T1 T2 : TypeId) : ∀ w', InW ((w.alloc (.cells P.toArray T1)).alloc (.cells R.toArray T2)) (w.heap.size + 2) w' → Box w' w.heap.size P ∧ Box w' (w.heap.size + 1) R ∧ Below w.heap.size w w' := by
  intro w' h
  obtain ⟨b1, b2, b3⟩ := boxes2 (Below.refl ((w.alloc (.cells P.toArray T1)).alloc (.cells R.toArray T2)).heap.size ((w.alloc (.cells P.toArray T1)).alloc (.cells R.toArray T2)))
  exact ⟨h.box b1 (by omega), h.box b2 (by omega), b3.trans (h.1.mono (by omega))⟩
/-- Lists of the call's own, one after the other. -/
def K2 (W : World) (B : Nat) (xs ys : List Int) : Option (Value × Option Value) → World → Prop
  | none, w' => InW W B w'
  | some (v, none), w' => InW W B w' ∧ Own w' B v xs
  | some (v, some u), w' => InW W B w' ∧ Own w' B v xs ∧ Own w' B u ys
theorem K2.inw {W : World} {B : Nat} {xs ys : List Int} {z : Option (Value × Option Value)} {w' : World} (h : K2 W B xs ys z w') : InW W B w' := by
  match z, h with
  | none, h => exact h
  | some (_, none), h => exact h.1
  | some (_, some _), h => exact h.1
theorem K2.on {W : World} {B : Nat} {xs ys : List Int} {z : Option (Value × Option Value)} {w1 w2 : World} (h : K2 W B xs ys z w1) (hb : Below w1.heap.size w1 w2) : K2 W B xs ys z w2 := by
  match z, h with
  | none, h => exact InW.on h hb
  | some (_, none), h => exact ⟨h.1.on hb, own_below h.2 hb⟩
  | some (_, some _), h => exact ⟨h.1.on hb, own_below h.2.1 hb, own_below h.2.2 hb⟩

theorem wok_parts (g : Int) (rows : List (List Int)) (makes says : List Int) (q : Int) (tells : List Int) : wokB g rows makes says q tells = (saysB g rows makes says && (lotB g rows makes tells && (exB g q && sameB (mkAll g rows tells) (timesAll g says makes q)))) := by
  unfold wokB saysB; simp only [Bool.and_assoc]
theorem saysB_true {g : Int} {rows : List (List Int)} {makes says : List Int} : saysB g rows makes says = true ↔ Cl g rows makes ∧ says.length = rows.length ∧ allEl g says = true := by
  unfold saysB; simp only [Bool.and_eq_true, clB_true, decide_eq_true_eq]

end Go.Proofs.YtiinifcepcaonaaDoor

/- A list that lies in a box and is appended to inside a region that draws its order; append of a whole list; slices.Clone. -/
namespace Go.Proofs.YtiinifcepcaonaaDoor
open Go.RowKit

section
variable {P : Program} {ops : Array Oper} {md : Region.Mode} {Z : Type} {C : Z → World → Prop} {S : Nat → Bool}
theorem hOp_special {K : Z → Act → Prop} {i : Nat} {z : Z} {a : Act} {o : Oper} {d : Option Tmp} (hd : o.dst = d) (hS : S i = true) (ho : ops[i]? = some o) (hw : Region.wanted o (yielded ops a.tmps) = true)
    (h : ∀ w, C z w → ∃ u w' z', (execOp a.eval o).run P w = .ok (.value u) w' ∧ C z' w' ∧ K z' (a.put d u)) : hOp P ops C S z i K a := by
  unfold hOp
  rw [if_pos hS]
  subst hd
  refine ⟨o, ho, hw, fun w hc => ?_⟩
  obtain ⟨u, w', z', hrun, hc', hk⟩ := h w hc
  rw [hrun]; exact ⟨z', hc', hk⟩
/-- Two operations may come up, both special. -/
theorem wpAnyH_two {Q : Z → Act → Prop} {fuel : Nat} {listed : Array Bool} {z : Z} {a : Act} (i j : Nat) (hr : Region.ready md ops listed = [i, j])
    (h1 : hOp P ops C S z i (fun z' => wpAnyH P md ops C S Q fuel (listed.setIfInBounds i true) z') a) (h2 : hOp P ops C S z j (fun z' => wpAnyH P md ops C S Q fuel (listed.setIfInBounds j true) z') a) :
    wpAnyH P md ops C S Q (fuel + 1) listed z a :=
  ⟨fun h0 => (by rw [hr] at h0; cases h0), fun k hk => by
    rw [hr] at hk
    have : k = i ∨ k = j := by simpa using hk
    rcases this with rfl | rfl
    · exact h1
    · exact h2⟩
end

/-- A world behind W: the blocks below B are as they were, but one. -/
structure InX (W : World) (B No : Nat) (w' : World) : Prop where
  os : w'.os = W.os
  tape : w'.tape = W.tape
  output : w'.output = W.output
  size : W.heap.size ≤ w'.heap.size
  low : B ≤ w'.heap.size
  block : ∀ k, k < B → k ≠ No → w'.heap[k]? = W.heap[k]?
theorem InX.start (W : World) (No : Nat) : InX W W.heap.size No W := ⟨rfl, rfl, rfl, Nat.le_refl _, Nat.le_refl _, fun _ _ _ => rfl⟩
theorem InX.on {W w1 w2 : World} {B No : Nat} (h : InX W B No w1) (hb : Below w1.heap.size w1 w2) : InX W B No w2 :=
  ⟨hb.os.trans h.os, hb.tape.trans h.tape, hb.output.trans h.output, Nat.le_trans h.size hb.size, Nat.le_trans h.low hb.size, fun k hk hn => (hb.block k (Nat.lt_of_lt_of_le hk h.low)).trans (h.block k hk hn)⟩
theorem InX.grown {W w1 w2 : World} {B No : Nat} {r : Option Nat} (h : InX W B No w1) (hg : w1.grownBy w2 r) (hr : ∀ k, r = some k → B ≤ k) : InX W B No w2 :=
  ⟨hg.os.trans h.os, hg.tape.trans h.tape, hg.output.trans h.output, Nat.le_trans h.size hg.size, Nat.le_trans h.low hg.size, fun k hk hn => (hg.block k (Nat.lt_of_lt_of_le hk h.low) (fun e => by have := hr k e.symm; omega)).trans (h.block k hk hn)⟩
theorem InX.set {W w1 : World} {B No j : Nat} (h : InX W B No w1) (v : Value) : InX W B No (w1.setCell ⟨No, j, none⟩ v) :=
  ⟨h.os, h.tape, h.output, by simpa [World.setCell] using h.size, by simpa [World.setCell] using h.low, fun k hk hn => (Below.heap_setCell _ _ _ _ hn).trans (h.block k hk hn)⟩
theorem InX.box {W w' : World} {B No N : Nat} {cs : List Value} (h : InX W B No w') (hb : Box W N cs) (hN : N < B) (hne : N ≠ No) : Box w' N cs := by
  obtain ⟨T, hb⟩ := hb
  exact ⟨T, by rw [h.block N hN hne]; exact hb⟩
theorem InX.own {W w' : World} {B No B' : Nat} {v : Value} {xs : List Int} (h : InX W B No w') (ho : Own W B' v xs) (hB : W.heap.size ≤ B) (hne : ∀ k, v.ownBlock = some k → k ≠ No) : Own w' B' v xs :=
  own_heap ho fun k hk => h.block k (Nat.lt_of_lt_of_le (ho.lt k hk).2 hB) (hne k hk)
theorem InX.below {w W w' : World} {B No : Nat} (h : InX W B No w') (hb : Below w.heap.size w W) (h1 : w.heap.size ≤ No) (h2 : w.heap.size ≤ B) : Below w.heap.size w w' :=
  ⟨h.os.trans hb.os, h.tape.trans hb.tape, h.output.trans hb.output, Nat.le_trans hb.size h.size, fun k hk => (h.block k (by omega) (by omega)).trans (hb.block k hk)⟩

/-- A list in a box: as it is; beside the box of what is appended; the longer list made; the longer list put in the box. -/
def Kx (W : World) (B No : Nat) (cs : Value → List Value) (v : Value) (xs : List Int) (y : Int) : Option (Nat ⊕ (Value ⊕ Value)) → World → Prop
  | none, w' => InX W B No w' ∧ Box w' No (cs v) ∧ Own w' B v xs
  | some (.inl b), w' => InX W B No w' ∧ Box w' No (cs v) ∧ Own w' B v xs ∧ Box w' b [.int .i64 y]
  | some (.inr (.inl v')), w' => InX W B No w' ∧ Box w' No (cs v) ∧ Own w' B v' (xs ++ [y])
  | some (.inr (.inr v')), w' => InX W B No w' ∧ Box w' No (cs v') ∧ Own w' B v' (xs ++ [y])
theorem Kx.inx {W : World} {B No : Nat} {cs : Value → List Value} {v : Value} {xs : List Int} {y : Int} {z : Option (Nat ⊕ (Value ⊕ Value))} {w' : World} (h : Kx W B No cs v xs y z w') : InX W B No w' := by
  match z, h with
  | none, h => exact h.1
  | some (.inl _), h => exact h.1
  | some (.inr (.inl _)), h => exact h.1
  | some (.inr (.inr _)), h => exact h.1
theorem Kx.on {W : World} {B No : Nat} {cs : Value → List Value} {v : Value} {xs : List Int} {y : Int} {z : Option (Nat ⊕ (Value ⊕ Value))} {w1 w2 : World} (h : Kx W B No cs v xs y z w1) (hb : Below w1.heap.size w1 w2) : Kx W B No cs v xs y z w2 := by
  match z, h with
  | none, h => exact ⟨h.1.on hb, h.2.1.on hb, own_below h.2.2 hb⟩
  | some (.inl _), h => exact ⟨h.1.on hb, h.2.1.on hb, own_below h.2.2.1 hb, h.2.2.2.on hb⟩
  | some (.inr (.inl _)), h => exact ⟨h.1.on hb, h.2.1.on hb, own_below h.2.2 hb⟩
  | some (.inr (.inr _)), h => exact ⟨h.1.on hb, h.2.1.on hb, own_below h.2.2 hb⟩
theorem Kx.build {W : World} {B No : Nat} {cs : Value → List Value} {v : Value} {xs : List Int} {y : Int} {w1 : World} {T : TypeId} (h : Kx W B No cs v xs y none w1) : Kx W B No cs v xs y (some (.inl w1.heap.size)) (w1.alloc (.cells #[.int .i64 y] T)) := by
  have h2 := h.on (below_grow w1 (.cells #[.int .i64 y] T))
  exact ⟨h2.1, h2.2.1, h2.2.2, Box.made w1 [.int .i64 y] T⟩
theorem Kx.app {W : World} {B No b : Nat} {cs : Value → List Value} {v v' : Value} {xs : List Int} {y : Int} {w1 w2 : World} (h : Kx W B No cs v xs y (some (.inl b)) w1) (hN : No < B) (ho : Own w2 B v' (xs ++ [y])) (hg : w1.grownBy w2 v.ownBlock) : Kx W B No cs v xs y (some (.inr (.inl v'))) w2 := by
  refine ⟨h.1.grown hg fun k hk => (h.2.2.1.lt k hk).1, ?_, ho⟩
  have hl := h.2.1.lt
  obtain ⟨T, hb⟩ := h.2.1
  exact ⟨T, by rw [hg.block No hl (fun e => by have := (h.2.2.1.lt No e.symm).1; omega)]; exact hb⟩
theorem Kx.put {W : World} {B No j : Nat} {cs : Value → List Value} {v v' : Value} {xs : List Int} {y : Int} {w1 : World} (h : Kx W B No cs v xs y (some (.inr (.inl v'))) w1) (hN : No < B) (hcs : (cs v).set j v' = cs v') : Kx W B No cs v xs y (some (.inr (.inr v'))) (w1.setCell ⟨No, j, none⟩ v') := by
  refine ⟨h.1.set v', by have := h.2.1.set j v'; rwa [hcs] at this, own_heap h.2.2 fun k hk => Below.heap_setCell _ _ _ _ (by show k ≠ No; have := (h.2.2.lt k hk).1; omega)⟩

/-- append of a whole list to an owned list. -/
theorem wpAppInts {ops : Array Oper} {rest : List Oper} {o : Oper} {a : Act} {Q : Exit → Act → World → Prop} {w3 : World} {B G c n : Nat} {v : Value} {xs ys : List Int} (hgd : o.guard = none) (s x : Operand)
    (ho : o.op = .call { callee := .builtin .append, args := #[s, x], argTypes := #[33, 33] }) (hs : a.eval s = v) (hown : Own w3 B v xs) (hn : ys.length = n) (hl : xs.length + n < 1000000000) (hB : B ≤ w3.heap.size) (hx : a.eval x = .slice (some ⟨G, 0, none⟩) n c)
    (hc : ∀ j, j < n → w3.cell? ⟨G, j, none⟩ = some (.int .i64 (nth ys j)))
    (h : ∀ v' w4, Own w4 B v' (xs ++ ys) → w3.grownBy w4 v.ownBlock → wpList Tryd.prog ops Q rest (a.put o.dst v') w4) :
    wpList Tryd.prog ops Q (o :: rest) a w3 := by
  obtain ⟨i0, hi, hz0, hz1, hz2⟩ := info_parts infoInt
  subst hn
  refine wpList_append_own_at w3 hgd s x 33 ho B 3 i0 (.int .i64 0) 1 8 Tryd.underlying33 hi hz0 hz1 hz2 rfl (by decide) v xs.length _ hs hown ⟨G, 0, none⟩ ys.length c (ys.map (Value.int .i64)) hx (by simp) (fun j u hj => ?_) ?_ ?_ ?_ ?_ ?_
  · rw [List.getElem?_map] at hj
    by_cases hjl : j < ys.length
    · rw [List.getElem?_eq_getElem hjl] at hj
      simp at hj
      have := hc j hjl
      rw [nth_get hjl] at this
      have hadd : (⟨G, 0, none⟩ : Addr).add j = ⟨G, j, none⟩ := by unfold Addr.add; split <;> simp_all
      rw [hadd, ← hj]; exact this
    · rw [List.getElem?_eq_none (by omega)] at hj; simp at hj
  · intro u hu; simp at hu; obtain ⟨q, _, rfl⟩ := hu; rfl
  · unfold maxLen; omega
  · omega
  · exact hB
  · intro v' w4 h1 h2 _ _
    exact h v' w4 (by unfold Own; simpa using h1) h2

theorem own_made' (w : World) : Own (w.alloc (.cells #[] 3)) w.heap.size (.slice (some ⟨w.heap.size, 0, none⟩) 0 0) [] := own_made w _ rfl

end Go.Proofs.YtiinifcepcaonaaDoor

/- Regions that draw their order: a call among several that may come up; one continuation behind all orders. -/
namespace Go.Proofs.YtiinifcepcaonaaDoor
open Go.RowKit

section
variable {P : Program} {ops : Array Oper} {md : Region.Mode} {Z : Type} {C : Z → World → Prop} {S : Nat → Bool}
/-- A call, one of those that may come up. -/
theorem hOp_call {K : Z → Act → Prop} {i : Nat} {z : Z} {a : Act} {o : Oper} {d : Option Tmp} (f : FuncId) (args : Array Value) (hd : o.dst = d) (hS : S i = true) (ho : ops[i]? = some o) (hw : Region.wanted o (yielded ops a.tmps) = true)
    (hrun : ∀ w, (execOp a.eval o).run P w = .ok (.enter f args) w)
    (h : ∀ w, C z w → Calls P f args w fun e w' => ∃ v, e = .returned v ∧ ∃ z', C z' w' ∧ K z' (a.put d v)) : hOp P ops C S z i K a := by
  unfold hOp
  rw [if_pos hS]
  subst hd
  refine ⟨o, ho, hw, fun w hc => ?_⟩
  rw [hrun w]
  exact h w hc
end

section
variable {P : Program} {ops : Array Oper} {md : Region.Mode} {Z : Type} {C : Z → World → Prop} {S : Nat → Bool}
theorem wpAnyH_mono {Q Q' : Z → Act → Prop} (h : ∀ z a, Q z a → Q' z a) : ∀ (fuel : Nat) (listed : Array Bool) (z : Z) (a : Act), wpAnyH P md ops C S Q fuel listed z a → wpAnyH P md ops C S Q' fuel listed z a
  | 0, _, _, _, ⟨x, y⟩ => ⟨x, h _ _ y⟩
  | n + 1, _, _, _, ⟨x, y⟩ => ⟨fun e => h _ _ (x e), fun i hi => hOp_mono (fun z a => wpAnyH_mono h n _ z a) (y i hi)⟩
/-- Whatever the order, it ends in one of the forms pf d, with the ghost zf d. -/
theorem wpAnyH_key {D : Type} {Q : Z → Act → Prop} {fuel : Nat} {listed : Array Bool} {z : Z} {a : Act} (zf : D → Z) (pf : D → Act → Act)
    (h : wpAnyH P md ops C S (fun z' a' => ∃ d, z' = zf d ∧ a' = pf d a) fuel listed z a) (hk : ∀ d, Q (zf d) (pf d a)) : wpAnyH P md ops C S Q fuel listed z a :=
  wpAnyH_mono (fun z' a' ⟨d, hz, ha⟩ => by subst hz ha; exact hk d) _ _ _ _ h
end

end Go.Proofs.YtiinifcepcaonaaDoor
