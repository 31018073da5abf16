/- append of one number inside a region that draws its order; a list of the call's own beside boxes. -/
import Derived.Test.YtljekapbcphdaabDoorRegionH
import Derived.Test.YtljekapbcphdaabDoorBRd
namespace Go.Proofs.YtljekapbcphdaabDoor
open Go.RowKit

theorem run_append_here {P : Program} {w : World} {o : Oper} {a : Act} (s x : Operand) (t : TypeId) (hop : o.op = .call { callee := .builtin .append, args := #[s, x], argTypes := #[t, t] })
    (base : Nat) (e : TypeId) (i : TypeInfo) (z : Value) (size bytes : Nat) (ht : P.underlying t = some (.slice e)) (hi : P.info? e = some i) (hz : i.zero = some z)
    (hsize : i.size = size) (hby : i.bytes = bytes) (hzs : z.cells.size = size) (hsz : 0 < size)
    (v : Value) (n : Nat) (xs : List Value) (hs : a.eval s = v) (hown : w.ownsRow base e size v n xs)
    (ad : Addr) (m c : Nat) (news : List Value) (hx : a.eval x = .slice (some ad) m c) (hl : news.length = m * size) (hnews : ∀ j u, news[j]? = some u → w.cell? (ad.add j) = some u) (h1 : ∀ u ∈ news, u.oneCell' = true)
    (h63 : n + m ≤ maxLen) (hbytes : (n + m) * bytes ≤ 140737488355328) (hbase : base ≤ w.heap.size) :
    ∃ v' w', (execOp a.eval o).run P w = .ok (.value v') w' ∧ w'.ownsRow base e size v' (n + m) (xs ++ news) ∧ w.grownBy w' v.ownBlock ∧ (v'.ownBlock = v.ownBlock ∨ v'.ownBlock = some w.heap.size) := by
  obtain ⟨v', w', hr, h2, h3, _, h5⟩ := run_append_own_at (P := P) w base t o.type e i z size bytes ht hi hz hsize hby hzs hsz v n xs hown ad m c news hl hnews h1 h63 hbytes hbase
  refine ⟨v', w', ?_, h2, h3, h5⟩
  unfold execOp
  simp only [hop, resolve, invoke, builtin, Sem.run_bind, Sem.run_pure, Result.andThen_ok, List.map_toArray, List.map_cons, List.map_nil, hs, hx, hr]

section
variable {ops : Array Oper} {md : Region.Mode} {Z : Type} {C : Z → World → Prop} {S : Nat → Bool}
/-- One operation alone may come up: one number is appended to an owned list. -/
theorem wpAnyH_app {Q : Z → Act → Prop} {fuel i : Nat} {listed : Array Bool} {z : Z} {a : Act} {o : Oper} {d : Option Tmp} {v : Value} {xs : List Int} {y : Int} {B N : Nat} (s x : Operand)
    (hd : o.dst = d) (hr : Region.ready md ops listed = [i]) (hS : S i = true) (ho : ops[i]? = some o) (hw : Region.wanted o (yielded ops a.tmps) = true)
    (hop : o.op = .call { callee := .builtin .append, args := #[s, x], argTypes := #[24, 24] }) (hs : a.eval s = v) (hx : a.eval x = .slice (some ⟨N, 0, none⟩) 1 1)
    (h : ∀ w, C z w → Own w B v xs ∧ xs.length < 1000000000 ∧ B ≤ w.heap.size ∧ Box w N [.int .i64 y] ∧ ∀ v' w', Own w' B v' (xs ++ [y]) → w.grownBy w' v.ownBlock → ∃ z', C z' w' ∧ wpAnyH Tryd.prog md ops C S Q fuel (listed.setIfInBounds i true) z' (a.put d v')) :
    wpAnyH Tryd.prog md ops C S Q (fuel + 1) listed z a := by
  refine wpAnyH_special hd hr hS ho hw fun w hc => ?_
  obtain ⟨h1, h2, h3, h4, h5⟩ := h w hc
  obtain ⟨i0, hi, hz0, hz1, hz2⟩ := info_parts infoInt
  obtain ⟨v', w', hr, k1, k2, _⟩ := run_append_here (P := Tryd.prog) (w := w) (o := o) (a := a) s x 24 hop B 3 i0 (.int .i64 0) 1 8 Tryd.underlying24 hi hz0 hz1 hz2 rfl (by decide) v xs.length _ hs h1 ⟨N, 0, none⟩ 1 1 [.int .i64 y] hx rfl
    (fun j u hj => by
      match j, hj with
      | 0, hj => simp at hj; subst hj; have := h4.cell 0; simpa [Addr.add] using this) (fun u hu => by simp at hu; subst hu; rfl) (by unfold maxLen; omega) (by omega) h3
  obtain ⟨z', hc', hk⟩ := h5 v' w' (by unfold Own; simpa using k1) k2
  exact ⟨v', w', z', .inl hr, hc', hk⟩
end
section
variable {P : Program} {md : Region.Mode} {Z : Type} {C : Z → World → Prop} {S : Nat → Bool}
/-- A quiet operation that has its value at once is taken now, whatever else may come up. -/
theorem wpAnyH_take {L : List Oper} {Q : Z → Act → Prop} {fuel i : Nat} {listed : Array Bool} {z : Z} {a : Act} {oi : Oper} {d : Option Tmp} (v : Value) (hd : oi.dst = d) (hsel : Region.noSelect L.toArray = true) (hS : S i = false) (hi : L.toArray[i]? = some oi) (hw : Region.wanted oi (yielded L.toArray a.tmps) = true)
    (hr : (Region.ready md L.toArray listed).contains i = true) (hf : Region.free md L.toArray listed i = true) (hrun : ∀ w, (execOp a.eval oi).run P w = .ok (.value v) w)
    (h : wpAnyH P md L.toArray C S Q fuel (listed.setIfInBounds i true) z (a.put d v)) : wpAnyH P md L.toArray C S Q (fuel + 1) listed z a := by
  subst hd
  exact wpAnyH_first hi hS (Region.noSelect_spec hsel) fuel listed z a (Region.free_spec hi hf) (by simpa using hr)
    (fun z => .inl ⟨hw, fun w _ => by unfold Oper.quietAt; rw [hrun w]; exact ⟨rfl, rfl⟩⟩) h
end

/-- Behind the boxes of W (blocks below B): a list of the call's own; the box of what is appended; the longer list. -/
def Kp (W : World) (B : Nat) (v : Value) (xs : List Int) (y : Int) : Option (Nat ⊕ Value) → World → Prop
  | none, w' => Below B W w' ∧ B ≤ w'.heap.size ∧ Own w' B v xs
  | some (.inl b), w' => Below B W w' ∧ B ≤ w'.heap.size ∧ Own w' B v xs ∧ Box w' b [.int .i64 y]
  | some (.inr v'), w' => Below B W w' ∧ B ≤ w'.heap.size ∧ Own w' B v' (xs ++ [y])
theorem Kp.below {W : World} {B : Nat} {v : Value} {xs : List Int} {y : Int} {z : Option (Nat ⊕ Value)} {w' : World} (h : Kp W B v xs y z w') : Below B W w' ∧ B ≤ w'.heap.size := by
  match z, h with
  | none, h => exact ⟨h.1, h.2.1⟩
  | some (.inl _), h => exact ⟨h.1, h.2.1⟩
  | some (.inr _), h => exact ⟨h.1, h.2.1⟩
theorem Kp.on {W : World} {B : Nat} {v : Value} {xs : List Int} {y : Int} {z : Option (Nat ⊕ Value)} {w1 w2 : World} (h : Kp W B v xs y z w1) (hb : Below w1.heap.size w1 w2) : Kp W B v xs y z w2 := by
  have h0 := h.below
  have a1 : Below B W w2 := h0.1.trans (hb.mono h0.2)
  have a2 : B ≤ w2.heap.size := Nat.le_trans h0.2 hb.size
  match z, h with
  | none, h => exact ⟨a1, a2, own_below h.2.2 hb⟩
  | some (.inl _), h => exact ⟨a1, a2, own_below h.2.2.1 hb, h.2.2.2.on hb⟩
  | some (.inr _), h => exact ⟨a1, a2, own_below h.2.2 hb⟩
theorem Kp.build {W : World} {B : Nat} {v : Value} {xs : List Int} {y : Int} {w1 : World} {T : TypeId} (h : Kp W B v xs y none w1) : Kp W B v xs y (some (.inl w1.heap.size)) (w1.alloc (.cells #[.int .i64 y] T)) := by
  have h2 := h.on (below_grow w1 (.cells #[.int .i64 y] T))
  exact ⟨h2.1, h2.2.1, h2.2.2, Box.made w1 [.int .i64 y] T⟩
theorem Kp.app {W : World} {B b : Nat} {v v' : Value} {xs : List Int} {y : Int} {w1 w2 : World} (h : Kp W B v xs y (some (.inl b)) w1) (ho : Own w2 B v' (xs ++ [y])) (hg : w1.grownBy w2 v.ownBlock) : Kp W B v xs y (some (.inr v')) w2 :=
  ⟨h.1.grown hg h.2.1 fun k hk => (h.2.2.1.lt k hk).1, Nat.le_trans h.2.1 hg.size, ho⟩
end Go.Proofs.YtljekapbcphdaabDoor
