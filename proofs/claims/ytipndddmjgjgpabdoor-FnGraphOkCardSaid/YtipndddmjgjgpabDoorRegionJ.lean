/- A list that lies in a box and is appended to inside a region that draws its order; append of a whole list; slices.Clone. -/
import Derived.Test.YtipndddmjgjgpabDoorWokI
import Derived.Lib.SliceRun
namespace Go.Proofs.YtipndddmjgjgpabDoor
open Go.RowKit

section
variable {P : Program} {ops : Array Oper} {md : Region.Mode} {Z : Type} {C : Z → World → Prop} {S : Nat → Bool}
theorem hOp_special {K : Z → Act → Prop} {i : Nat} {z : Z} {a : Act} {o : Oper} {d : Option Tmp} (hd : o.dst = d) (hS : S i = true) (ho : ops[i]? = some o) (hw : Region.wanted o (yielded ops a.tmps) = true)
    (h : ∀ w, C z w → ∃ u w' z', (execOp a.eval o).run P w = .ok (.value u) w' ∧ C z' w' ∧ K z' (a.put d u)) : hOp P ops C S z i K a := by
  unfold hOp
  rw [if_pos hS]
  subst hd
  refine ⟨o, ho, hw, fun w hc => ?_⟩
  obtain ⟨u, w', z', hrun, hc', hk⟩ := h w hc
  rw [hrun]; exact ⟨z', hc', hk⟩
/-- Two operations may come up, both special. -/
theorem wpAnyH_two {Q : Z → Act → Prop} {fuel : Nat} {listed : Array Bool} {z : Z} {a : Act} (i j : Nat) (hr : Region.ready md ops listed = [i, j])
    (h1 : hOp P ops C S z i (fun z' => wpAnyH P md ops C S Q fuel (listed.setIfInBounds i true) z') a) (h2 : hOp P ops C S z j (fun z' => wpAnyH P md ops C S Q fuel (listed.setIfInBounds j true) z') a) :
    wpAnyH P md ops C S Q (fuel + 1) listed z a :=
  ⟨fun h0 => (by rw [hr] at h0; cases h0), fun k hk => by
    rw [hr] at hk
    have : k = i ∨ k = j := by simpa using hk
    rcases this with rfl | rfl
    · exact h1
    · exact h2⟩
end

/-- A world behind W: the blocks below B are as they were, but one. -/
structure InX (W : World) (B No : Nat) (w' : World) : Prop where
  os : w'.os = W.os
  tape : w'.tape = W.tape
  output : w'.output = W.output
  size : W.heap.size ≤ w'.heap.size
  low : B ≤ w'.heap.size
  block : ∀ k, k < B → k ≠ No → w'.heap[k]? = W.heap[k]?
theorem InX.start (W : World) (No : Nat) : InX W W.heap.size No W := ⟨rfl, rfl, rfl, Nat.le_refl _, Nat.le_refl _, fun _ _ _ => rfl⟩
theorem InX.on {W w1 w2 : World} {B No : Nat} (h : InX W B No w1) (hb : Below w1.heap.size w1 w2) : InX W B No w2 :=
  ⟨hb.os.trans h.os, hb.tape.trans h.tape, hb.output.trans h.output, Nat.le_trans h.size hb.size, Nat.le_trans h.low hb.size, fun k hk hn => (hb.block k (Nat.lt_of_lt_of_le hk h.low)).trans (h.block k hk hn)⟩
theorem InX.grown {W w1 w2 : World} {B No : Nat} {r : Option Nat} (h : InX W B No w1) (hg : w1.grownBy w2 r) (hr : ∀ k, r = some k → B ≤ k) : InX W B No w2 :=
  ⟨hg.os.trans h.os, hg.tape.trans h.tape, hg.output.trans h.output, Nat.le_trans h.size hg.size, Nat.le_trans h.low hg.size, fun k hk hn => (hg.block k (Nat.lt_of_lt_of_le hk h.low) (fun e => by have := hr k e.symm; omega)).trans (h.block k hk hn)⟩
theorem InX.set {W w1 : World} {B No j : Nat} (h : InX W B No w1) (v : Value) : InX W B No (w1.setCell ⟨No, j, none⟩ v) :=
  ⟨h.os, h.tape, h.output, by simpa [World.setCell] using h.size, by simpa [World.setCell] using h.low, fun k hk hn => (Below.heap_setCell _ _ _ _ hn).trans (h.block k hk hn)⟩
theorem InX.box {W w' : World} {B No N : Nat} {cs : List Value} (h : InX W B No w') (hb : Box W N cs) (hN : N < B) (hne : N ≠ No) : Box w' N cs := by
  obtain ⟨T, hb⟩ := hb
  exact ⟨T, by rw [h.block N hN hne]; exact hb⟩
theorem InX.own {W w' : World} {B No B' : Nat} {v : Value} {xs : List Int} (h : InX W B No w') (ho : Own W B' v xs) (hB : W.heap.size ≤ B) (hne : ∀ k, v.ownBlock = some k → k ≠ No) : Own w' B' v xs :=
  own_heap ho fun k hk => h.block k (Nat.lt_of_lt_of_le (ho.lt k hk).2 hB) (hne k hk)
theorem InX.below {w W w' : World} {B No : Nat} (h : InX W B No w') (hb : Below w.heap.size w W) (h1 : w.heap.size ≤ No) (h2 : w.heap.size ≤ B) : Below w.heap.size w w' :=
  ⟨h.os.trans hb.os, h.tape.trans hb.tape, h.output.trans hb.output, Nat.le_trans hb.size h.size, fun k hk => (h.block k (by omega) (by omega)).trans (hb.block k hk)⟩

/-- A list in a box: as it is; beside the box of what is appended; the longer list made; the longer list put in the box. -/
def Kx (W : World) (B No : Nat) (cs : Value → List Value) (v : Value) (xs : List Int) (y : Int) : Option (Nat ⊕ (Value ⊕ Value)) → World → Prop
  | none, w' => InX W B No w' ∧ Box w' No (cs v) ∧ Own w' B v xs
  | some (.inl b), w' => InX W B No w' ∧ Box w' No (cs v) ∧ Own w' B v xs ∧ Box w' b [.int .i64 y]
  | some (.inr (.inl v')), w' => InX W B No w' ∧ Box w' No (cs v) ∧ Own w' B v' (xs ++ [y])
  | some (.inr (.inr v')), w' => InX W B No w' ∧ Box w' No (cs v') ∧ Own w' B v' (xs ++ [y])
theorem Kx.inx {W : World} {B No : Nat} {cs : Value → List Value} {v : Value} {xs : List Int} {y : Int} {z : Option (Nat ⊕ (Value ⊕ Value))} {w' : World} (h : Kx W B No cs v xs y z w') : InX W B No w' := by
  match z, h with
  | none, h => exact h.1
  | some (.inl _), h => exact h.1
  | some (.inr (.inl _)), h => exact h.1
  | some (.inr (.inr _)), h => exact h.1
theorem Kx.on {W : World} {B No : Nat} {cs : Value → List Value} {v : Value} {xs : List Int} {y : Int} {z : Option (Nat ⊕ (Value ⊕ Value))} {w1 w2 : World} (h : Kx W B No cs v xs y z w1) (hb : Below w1.heap.size w1 w2) : Kx W B No cs v xs y z w2 := by
  match z, h with
  | none, h => exact ⟨h.1.on hb, h.2.1.on hb, own_below h.2.2 hb⟩
  | some (.inl _), h => exact ⟨h.1.on hb, h.2.1.on hb, own_below h.2.2.1 hb, h.2.2.2.on hb⟩
  | some (.inr (.inl _)), h => exact ⟨h.1.on hb, h.2.1.on hb, own_below h.2.2 hb⟩
  | some (.inr (.inr _)), h => exact ⟨h.1.on hb, h.2.1.on hb, own_below h.2.2 hb⟩
theorem Kx.build {W : World} {B No : Nat} {cs : Value → List Value} {v : Value} {xs : List Int} {y : Int} {w1 : World} {T : TypeId} (h : Kx W B No cs v xs y none w1) : Kx W B No cs v xs y (some (.inl w1.heap.size)) (w1.alloc (.cells #[.int .i64 y] T)) := by
  have h2 := h.on (below_grow w1 (.cells #[.int .i64 y] T))
  exact ⟨h2.1, h2.2.1, h2.2.2, Box.made w1 [.int .i64 y] T⟩
theorem Kx.app {W : World} {B No b : Nat} {cs : Value → List Value} {v v' : Value} {xs : List Int} {y : Int} {w1 w2 : World} (h : Kx W B No cs v xs y (some (.inl b)) w1) (hN : No < B) (ho : Own w2 B v' (xs ++ [y])) (hg : w1.grownBy w2 v.ownBlock) : Kx W B No cs v xs y (some (.inr (.inl v'))) w2 := by
  refine ⟨h.1.grown hg fun k hk => (h.2.2.1.lt k hk).1, ?_, ho⟩
  have hl := h.2.1.lt
  obtain ⟨T, hb⟩ := h.2.1
  exact ⟨T, by rw [hg.block No hl (fun e => by have := (h.2.2.1.lt No e.symm).1; omega)]; exact hb⟩
theorem Kx.put {W : World} {B No j : Nat} {cs : Value → List Value} {v v' : Value} {xs : List Int} {y : Int} {w1 : World} (h : Kx W B No cs v xs y (some (.inr (.inl v'))) w1) (hN : No < B) (hcs : (cs v).set j v' = cs v') : Kx W B No cs v xs y (some (.inr (.inr v'))) (w1.setCell ⟨No, j, none⟩ v') := by
  refine ⟨h.1.set v', by have := h.2.1.set j v'; rwa [hcs] at this, own_heap h.2.2 fun k hk => Below.heap_setCell _ _ _ _ (by show k ≠ No; have := (h.2.2.lt k hk).1; omega)⟩

/-- append of a whole list to an owned list. -/
theorem wpAppInts {ops : Array Oper} {rest : List Oper} {o : Oper} {a : Act} {Q : Exit → Act → World → Prop} {w3 : World} {B G c n : Nat} {v : Value} {xs ys : List Int} (hgd : o.guard = none) (s x : Operand)
    (ho : o.op = .call { callee := .builtin .append, args := #[s, x], argTypes := #[23, 23] }) (hs : a.eval s = v) (hown : Own w3 B v xs) (hn : ys.length = n) (hl : xs.length + n < 1000000000) (hB : B ≤ w3.heap.size) (hx : a.eval x = .slice (some ⟨G, 0, none⟩) n c)
    (hc : ∀ j, j < n → w3.cell? ⟨G, j, none⟩ = some (.int .i64 (nth ys j)))
    (h : ∀ v' w4, Own w4 B v' (xs ++ ys) → w3.grownBy w4 v.ownBlock → wpList Tryd.prog ops Q rest (a.put o.dst v') w4) :
    wpList Tryd.prog ops Q (o :: rest) a w3 := by
  obtain ⟨i0, hi, hz0, hz1, hz2⟩ := info_parts infoInt
  subst hn
  refine wpList_append_own_at w3 hgd s x 23 ho B 3 i0 (.int .i64 0) 1 8 Tryd.underlying23 hi hz0 hz1 hz2 rfl (by decide) v xs.length _ hs hown ⟨G, 0, none⟩ ys.length c (ys.map (Value.int .i64)) hx (by simp) (fun j u hj => ?_) ?_ ?_ ?_ ?_ ?_
  · rw [List.getElem?_map] at hj
    by_cases hjl : j < ys.length
    · rw [List.getElem?_eq_getElem hjl] at hj
      simp at hj
      have := hc j hjl
      rw [nth_get hjl] at this
      have hadd : (⟨G, 0, none⟩ : Addr).add j = ⟨G, j, none⟩ := by unfold Addr.add; split <;> simp_all
      rw [hadd, ← hj]; exact this
    · rw [List.getElem?_eq_none (by omega)] at hj; simp at hj
  · intro u hu; simp at hu; obtain ⟨q, _, rfl⟩ := hu; rfl
  · unfold maxLen; omega
  · omega
  · exact hB
  · intro v' w4 h1 h2 _ _
    exact h v' w4 (by unfold Own; simpa using h1) h2

theorem own_made' (w : World) : Own (w.alloc (.cells #[] 3)) w.heap.size (.slice (some ⟨w.heap.size, 0, none⟩) 0 0) [] := own_made w _ rfl

theorem iclone_any (v : Value) (xs : List Int) (w : World) (h : Ints w v xs) (hl : xs.length ≤ 1000) : Calls Tryd.prog 75 #[v] w fun e w' => ∃ v', e = .returned v' ∧ Own w' w.heap.size v' xs ∧ Below w.heap.size w w' := by
  rcases h with ⟨rfl, rfl⟩ | ⟨g, cap, rfl, _, hg, hc⟩
  · have hnil := fun w => Lib.run_eql_slice_nil (P := Tryd.prog) w 23 3 none 0 0 0 0 Tryd.underlying23
    go_enter Tryd.func75, Tryd.ntmps75
    go_wp2
    go_ret
    exact ⟨_, rfl, World.ownsRow_nil _ _ _ _, Below.refl _ _⟩
  · have O0 := own_made' w
    have HC := Lib.hid hc
    have HG := Lib.hid hg
    clear hc hg
    obtain ⟨n, hn⟩ : ∃ n, xs.length = n := ⟨_, rfl⟩
    have HN := Lib.hid hn
    have HCN := Lib.hid (show ∀ j, j < n → (w.alloc (.cells #[] 3)).cell? ⟨g, j, none⟩ = some (.int .i64 (nth xs j)) from fun j hj => ((below_grow w _).cell (p := ⟨g, j, none⟩) HG.out).trans (HC.out j (by rw [hn]; exact hj)))
    rw [hn] at hl ⊢
    clear hn
    have hnil := fun w => Lib.run_eql_slice_nil (P := Tryd.prog) w 23 3 (some ⟨g, 0, none⟩) n cap 0 0 Tryd.underlying23
    go_enter Tryd.func75, Tryd.ntmps75
    go_wp2_with (at_builtin; refine wpAppInts (xs := []) (ys := xs) rfl _ _ rfl rfl O0 HN.out (by simp; omega) (by simp) rfl HCN.out ?_)
    intro v' w4 o4 g4
    have O4 := Lib.hid (show Own w4 w.heap.size v' xs from o4)
    have B4 := Lib.hid ((below_grow w _).grown g4 (by simp) (fun k hk => (O0.lt k hk).1))
    clear o4 g4 O0
    go_wp2
    go_ret
    exact ⟨_, rfl, O4.out, B4.out⟩
end Go.Proofs.YtipndddmjgjgpabDoor
