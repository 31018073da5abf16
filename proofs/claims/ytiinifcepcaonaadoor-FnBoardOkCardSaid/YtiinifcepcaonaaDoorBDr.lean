/- DrG, DrH, DrI, in one text. -/
import Derived.Test.YtiinifcepcaonaaDoorBDraw
import Derived.Test.YtiinifcepcaonaaDoorBRd
import Derived.Test.YtiinifcepcaonaaDoorBSol
import Derived.Deep.AppendSrc
import Derived.Test.YtiinifcepcaonaaDoorBSp7
import Derived.Test.YtiinifcepcaonaaDoorCapB
/- Drawing: the reader, boxes and lists of the call's own. -/
namespace Go.Proofs.YtiinifcepcaonaaDoor
open Go.RowKit

theorem own_pk {wr w' : World} {R B : Nat} {v : Value} {xs : List Int} (h : Own wr B v xs) (hR : R < B) (hg : wr.grownBy w' (some R)) : Own w' B v xs :=
  own_heap h fun q hq => hg.block q (h.lt q hq).2 fun e => by cases e; have := (h.lt _ hq).1; omega
/-- Since the world w: the reader R at k, boxes, lists of the call's own. -/
structure Dx (w : World) (R : Nat) (Bs : List (Nat × List Value)) (L : List (Value × List Int)) (k : Nat) (w' : World) : Prop where
  rd : Rd w' R k
  gr : w.grownBy w' (some R)
  rl : R < w.heap.size
  bx : ∀ b, b ∈ Bs → w.heap.size ≤ b.1 ∧ Box w' b.1 b.2
  ls : ∀ x, x ∈ L → Own w' w.heap.size x.1 x.2
  ap : ∀ b, b ∈ Bs → ∀ x, x ∈ L → ∀ q, x.1.ownBlock = some q → q ≠ b.1
section
variable {w w' w'' : World} {R k k' : Nat} {Bs Bs' : List (Nat × List Value)} {L L' : List (Value × List Int)}
theorem Dx.start (h : Rd w R k) : Dx w R [] [] k w := ⟨h, grown_refl w R, h.lt, fun b m => (by cases m), fun x m => (by cases m), fun b m => (by cases m)⟩
theorem Dx.draw (h : Dx w R Bs L k w') (hg : w'.grownBy w'' (some R)) (hr : Rd w'' R k') : Dx w R Bs L k' w'' :=
  ⟨hr, grown_trans h.gr hg, h.rl, fun b m => ⟨(h.bx b m).1, (by
    have hl := (h.bx b m).2.lt
    obtain ⟨T, hT⟩ := (h.bx b m).2
    exact ⟨T, by rw [hg.block b.1 hl (fun e => by have := (h.bx b m).1; have := h.rl; cases e; omega)]; exact hT⟩)⟩, fun x m => own_pk (h.ls x m) h.rl hg, h.ap⟩
theorem Dx.on (h : Dx w R Bs L k w') (hb : Below w'.heap.size w' w'') : Dx w R Bs L k w'' := h.draw (grown_below R hb) (h.rd.below hb)
theorem Dx.next {m : Nat} (h : Dx w R Bs L k w') (e : w'' = (w'.setCell ⟨R, 1, none⟩ (.int .i64 ((k : Int) + 1))).drewN m) : Dx w R Bs L (k + 1) w'' := by
  subst e; exact h.draw (grown_pick _ _ _ _) (h.rd.next m)
theorem Dx.add {B : Nat} {v : Value} {xs : List Int} (h : Dx w R Bs L k w') (ho : Own w' B v xs) (hB : w.heap.size ≤ B) (hb : ∀ b, b ∈ Bs → ∀ q, v.ownBlock = some q → q ≠ b.1) : Dx w R Bs ((v, xs) :: L) k w' := by
  refine ⟨h.rd, h.gr, h.rl, h.bx, fun x m => ?_, fun b mb x m => ?_⟩
  · rcases List.mem_cons.1 m with rfl | m
    · exact own_mono ho hB
    · exact h.ls x m
  · rcases List.mem_cons.1 m with rfl | m
    · exact hb b mb
    · exact h.ap b mb x m
/-- A list that a call made. -/
theorem Dx.made {v : Value} {xs : List Int} (h : Dx w R Bs L k w') (hg : w'.grownBy w'' (some R)) (hr : Rd w'' R k') (ho : Own w'' w'.heap.size v xs) : Dx w R Bs ((v, xs) :: L) k' w'' :=
  (h.draw hg hr).add ho h.gr.size fun b mb q hq => by have := (h.bx b mb).2.lt; have := (ho.lt q hq).1; omega
theorem Dx.box {T : TypeId} (h : Dx w R Bs L k w') (cs : List Value) : Dx w R ((w'.heap.size, cs) :: Bs) L k (w'.alloc (.cells cs.toArray T)) := by
  have k1 := h.on (below_grow w' (.cells cs.toArray T))
  refine ⟨k1.rd, k1.gr, k1.rl, fun b m => ?_, k1.ls, fun b mb x m q hq => ?_⟩
  · rcases List.mem_cons.1 m with rfl | m
    · exact ⟨h.gr.size, Box.made w' cs T⟩
    · exact k1.bx b m
  · rcases List.mem_cons.1 mb with rfl | mb
    · have := ((h.ls x m).lt q hq).2; show q ≠ w'.heap.size; omega
    · exact h.ap b mb x m q hq
theorem Dx.sub (h : Dx w R Bs L k w') (hb : ∀ b, b ∈ Bs' → b ∈ Bs) (hl : ∀ x, x ∈ L' → x ∈ L) : Dx w R Bs' L' k w' := ⟨h.rd, h.gr, h.rl, fun b m => h.bx b (hb b m), fun x m => h.ls x (hl x m), fun b mb x m => h.ap b (hb b mb) x (hl x m)⟩
/-- A cell of the box at the head written to; the other boxes are others. -/
theorem Dx.put {N : Nat} {cs : List Value} (h : Dx w R ((N, cs) :: Bs) L k w') (hd : ∀ b, b ∈ Bs → b.1 ≠ N) (j : Nat) (v : Value) : Dx w R ((N, cs.set j v) :: Bs) L k (w'.setCell ⟨N, j, none⟩ v) := by
  have hN := h.bx _ (.head _)
  have hRN : R < N := Nat.lt_of_lt_of_le h.rl hN.1
  have hh : ∀ q, q ≠ N → (w'.setCell ⟨N, j, none⟩ v).heap[q]? = w'.heap[q]? := fun q hq => Below.heap_setCell _ _ _ _ hq
  have hc : ∀ q o, q ≠ N → (w'.setCell ⟨N, j, none⟩ v).cell? ⟨q, o, none⟩ = w'.cell? ⟨q, o, none⟩ := fun q o hq => by simp only [World.cell?, hh q hq]
  refine ⟨h.rd.of_same (hc R 0 (by omega)) ((hc R 1 (by omega)).trans h.rd.pos) (by have := h.rd.free; simp only [World.frozen?, hh R (by omega)] at this ⊢; exact this) (by simp [World.setCell]) (fun b o hb => hc b o (by omega)),
    ⟨h.gr.os, h.gr.tape, h.gr.output, by simpa [World.setCell] using h.gr.size, fun q hq hne => (hh q (by have := hN.1; show q ≠ N; omega)).trans (h.gr.block q hq hne)⟩, h.rl, fun b m => ?_, fun x m => own_heap (h.ls x m) fun q hq => hh q (h.ap _ (.head _) x m q hq), fun b mb x m q hq => ?_⟩
  · rcases List.mem_cons.1 m with rfl | m
    · exact ⟨hN.1, hN.2.set j v⟩
    · exact ⟨(h.bx b (.tail _ m)).1, (h.bx b (.tail _ m)).2.far (hd b m) v⟩
  · rcases List.mem_cons.1 mb with rfl | mb
    · exact h.ap _ (.head _) x m q hq
    · exact h.ap b (.tail _ mb) x m q hq
/-- The one list appended to, or made anew. -/
theorem Dx.app {v v' : Value} {xs ys : List Int} {r : Option Nat} (h : Dx w R Bs [(v, xs)] k w') (ho : Own w'' w.heap.size v' ys) (hg : w'.grownBy w'' r) (hr : r = v.ownBlock) (hv : v'.ownBlock = v.ownBlock ∨ ∃ q, v'.ownBlock = some q ∧ w'.heap.size ≤ q) : Dx w R Bs [(v', ys)] k w'' := by
  have hlo : ∀ q, r = some q → w.heap.size ≤ q := fun q e => ((h.ls _ (.head _)).lt q (by rw [← hr]; exact e)).1
  have hbx : ∀ b, b ∈ Bs → ∀ q, r = some q → q ≠ b.1 := fun b m q e => h.ap b m _ (.head _) q (by rw [← hr]; exact e)
  have hRb : ∀ q, q ≤ R → w''.heap[q]? = w'.heap[q]? := fun q hq => hg.block q (Nat.lt_of_le_of_lt hq h.rd.lt) fun e => by have := hlo q e.symm; have := h.rl; omega
  have hc : ∀ b o, b ≤ R → w''.cell? ⟨b, o, none⟩ = w'.cell? ⟨b, o, none⟩ := fun b o hb => by simp only [World.cell?, hRb b hb]
  refine ⟨h.rd.of_same (hc R 0 (Nat.le_refl _)) ((hc R 1 (Nat.le_refl _)).trans h.rd.pos) (by have := h.rd.free; simp only [World.frozen?, hRb R (Nat.le_refl _)] at this ⊢; exact this) hg.size (fun b o hb => hc b o (Nat.le_of_lt hb)),
    ⟨hg.os.trans h.gr.os, hg.tape.trans h.gr.tape, hg.output.trans h.gr.output, Nat.le_trans h.gr.size hg.size, fun q a b => (hg.block q (Nat.lt_of_lt_of_le a h.gr.size) fun e => by have := hlo q e.symm; omega).trans (h.gr.block q a b)⟩, h.rl, fun b m => ?_, fun x m => ?_, fun b mb x m q hq => ?_⟩
  · refine ⟨(h.bx b m).1, ?_⟩
    have hl := (h.bx b m).2.lt
    obtain ⟨T, hT⟩ := (h.bx b m).2
    exact ⟨T, by rw [hg.block b.1 hl (fun e => hbx b m b.1 e.symm rfl)]; exact hT⟩
  · rcases List.mem_cons.1 m with rfl | m
    · exact ho
    · cases m
  · rcases List.mem_cons.1 m with rfl | m
    · rcases hv with hv | ⟨q', hv, hq'⟩
      · exact h.ap b mb _ (.head _) q (by rw [← hv]; exact hq)
      · have hh : some q' = some q := hv.symm.trans hq
        cases hh
        have := (h.bx b mb).2.lt
        omega
    · cases m
end
/-- append of nothing to a list that lies somewhere. -/
theorem wpAppNil {ops : Array Oper} {rest : List Oper} {o : Oper} {a : Act} {Q : Exit → Act → World → Prop} {w : World} {b n c : Nat} (hgd : o.guard = none) (s x : Operand)
    (ho : o.op = .call { callee := .builtin .append, args := #[s, x], argTypes := #[33, 33] }) (hs : a.eval s = .slice (some ⟨b, 0, none⟩) n c) (hx : a.eval x = .slice none 0 0) (hnc : n ≤ c)
    (h : wpList Tryd.prog ops Q rest (a.put o.dst (.slice (some ⟨b, 0, none⟩) n c)) w) : wpList Tryd.prog ops Q (o :: rest) a w := by
  refine wpList_plain hgd fun K hK => ?_
  obtain ⟨i0, hi, hz0, hz1, hz2⟩ := info_parts infoInt
  have hr := run_append_room_src (P := Tryd.prog) w 33 33 o.type 3 i0 Tryd.underlying33 hi b 0 n c (.slice none 0 0) 0 [] (Src.ofNil w Tryd.underlying33 0) (by omega) (fun j hj => by simp at hj) (fun j hj => by simp at hj)
  unfold Oper.wp execOp
  simp only [ho, resolve, invoke, builtin, Sem.run_bind, Sem.run_pure, Result.andThen_ok, List.map_toArray, List.map_cons, List.map_nil, hs, hx, hr]
  exact hK _ _ (by simpa [World.setCells] using h)
/-- append of a list that lies at some place of a block. -/
theorem wpAppIntsO {ops : Array Oper} {rest : List Oper} {o : Oper} {a : Act} {Q : Exit → Act → World → Prop} {w3 : World} {B G off c n : Nat} {v : Value} {xs ys : List Int} (hgd : o.guard = none) (s x : Operand)
    (ho : o.op = .call { callee := .builtin .append, args := #[s, x], argTypes := #[33, 33] }) (hs : a.eval s = v) (hown : Own w3 B v xs) (hn : ys.length = n) (hl : xs.length + n < 1000000000) (hB : B ≤ w3.heap.size) (hx : a.eval x = .slice (some ⟨G, off, none⟩) n c)
    (hc : ∀ j, j < n → w3.cell? ⟨G, off + j, none⟩ = some (.int .i64 (nth ys j)))
    (h : ∀ v' w4, Own w4 B v' (xs ++ ys) → w3.grownBy w4 v.ownBlock → (v'.ownBlock = v.ownBlock ∨ ∃ k, v'.ownBlock = some k ∧ w3.heap.size ≤ k) → wpList Tryd.prog ops Q rest (a.put o.dst v') w4) :
    wpList Tryd.prog ops Q (o :: rest) a w3 := by
  obtain ⟨i0, hi, hz0, hz1, hz2⟩ := info_parts infoInt
  subst hn
  refine wpList_append_own_at w3 hgd s x 33 ho B 3 i0 (.int .i64 0) 1 8 Tryd.underlying33 hi hz0 hz1 hz2 rfl (by decide) v xs.length _ hs hown ⟨G, off, none⟩ ys.length c (ys.map (Value.int .i64)) hx (by simp) (fun j u hj => ?_) ?_ ?_ ?_ ?_ ?_
  · rw [List.getElem?_map] at hj
    by_cases hjl : j < ys.length
    · rw [List.getElem?_eq_getElem hjl] at hj
      simp at hj
      have := hc j hjl
      rw [nth_get hjl] at this
      have hadd : (⟨G, off, none⟩ : Addr).add j = ⟨G, off + j, none⟩ := by unfold Addr.add; split <;> simp_all
      rw [hadd, ← hj]; exact this
    · rw [List.getElem?_eq_none (by omega)] at hj; simp at hj
  · intro u hu; simp at hu; obtain ⟨q, _, rfl⟩ := hu; rfl
  · unfold maxLen; omega
  · omega
  · exact hB
  · intro v' w4 h1 h2 _ h4
    refine h v' w4 (by unfold Own; simpa using h1) h2 ?_
    rcases h4 with h4 | h4
    · exact .inl h4
    · exact .inr ⟨_, h4, Nat.le_refl _⟩
/-- The head of an owned list is one. -/
theorem Own.head {w : World} {B g n c m : Nat} {xs : List Int} (h : Own w B (.slice (some ⟨g, 0, none⟩) n c) xs) (hn : xs.length = n) (hm : m ≤ n) : Own w B (.slice (some ⟨g, 0, none⟩) m c) (xs.take m) := by
  obtain ⟨h1, h2⟩ := h
  have hl : (xs.take m).length = m := by rw [List.length_take]; omega
  unfold Own
  rw [hl]
  refine ⟨by rw [List.length_map, hl, Nat.mul_one], .inr ?_⟩
  rcases h2 with ⟨e, _⟩ | ⟨g', cap, cur, e, hB, hg, hnc, hcm, hcs, htk⟩
  · cases e
  · cases e
    refine ⟨g, c, cur, rfl, hB, hg, by omega, hcm, hcs, ?_⟩
    rw [List.map_take, ← htk, List.take_take]
    congr 1
    omega
end Go.Proofs.YtiinifcepcaonaaDoor

/- Draws: l20Order, l20Graph. -/
namespace Go.Proofs.YtiinifcepcaonaaDoor
open Go.RowKit

theorem own_some {w : World} {B : Nat} {v : Value} {xs : List Int} (h : Own w B v xs) (hx : 0 < xs.length) : ∃ g c, v = .slice (some ⟨g, 0, none⟩) xs.length c := by
  rcases id h.2 with ⟨rfl, hn⟩ | ⟨g, cap, cur, rfl, _⟩
  · omega
  · exact ⟨_, _, rfl⟩
theorem Dx.re {w w' : World} {R k : Nat} {Bs : List (Nat × List Value)} {v v2 : Value} {xs ys : List Int} (h : Dx w R Bs [(v, xs)] k w') (ho : Own w' w.heap.size v2 ys) (e : v2.ownBlock = v.ownBlock) : Dx w R Bs [(v2, ys)] k w' :=
  ⟨h.rd, h.gr, h.rl, h.bx, fun x m => (by
    rcases List.mem_cons.1 m with rfl | m
    · exact ho
    · cases m), fun b mb x m q hq => (by
    rcases List.mem_cons.1 m with rfl | m
    · exact h.ap b mb _ (.head _) q (by rw [← e]; exact hq)
    · cases m)⟩
/-- The numbers from 0 on and less than q, in some order. -/
structure PmTo (xs : List Int) (q : Nat) : Prop where
  len : xs.length = q
  bd : ∀ x, x ∈ xs → 0 ≤ x ∧ x < q
  nd : xs.Nodup
theorem PmTo.ins {xs : List Int} {q t : Nat} (h : PmTo xs q) : PmTo (xs.take t ++ (q : Int) :: xs.drop t) (q + 1) := by
  have hp : (xs.take t ++ (q : Int) :: xs.drop t).Perm ((q : Int) :: xs) := by
    have h2 := List.perm_middle (a := (q : Int)) (l₁ := xs.take t) (l₂ := xs.drop t)
    rw [List.take_append_drop] at h2
    exact h2
  refine ⟨by rw [hp.length_eq, List.length_cons, h.len], fun x hx => ?_, hp.nodup_iff.2 (List.nodup_cons.2 ⟨fun hc => by have := h.bd _ hc; omega, h.nd⟩)⟩
  rcases List.mem_cons.1 (hp.mem_iff.1 hx) with rfl | hx
  · omega
  · have := h.bd x hx; omega
theorem PmTo.od {xs : List Int} {m : Nat} (h : PmTo xs m) (h1 : 1 ≤ m) (h5 : m ≤ 5) : Od xs m :=
  ⟨by rw [h.len], by omega, by omega, fun j hj => h.bd _ (nth_mem hj), pair_nth.1 h.nd⟩
theorem PmTo.small {xs : List Int} {m : Nat} (h : PmTo xs m) (h5 : m ≤ 5) : ∀ j, j < xs.length → 0 ≤ nth xs j ∧ nth xs j ≤ 10 := fun j hj => by have := h.bd _ (nth_mem hj); omega
theorem nth_drop {xs : List Int} {t j : Nat} : nth (xs.drop t) j = nth xs (t + j) := by
  unfold nth; rw [List.getD_eq_getElem?_getD, List.getD_eq_getElem?_getD, List.getElem?_drop]
theorem below_app {w1 w3 : World} {o : Obj} (g : (w1.alloc o).grownBy w3 (some w1.heap.size)) : Below w1.heap.size w1 w3 :=
  ⟨g.os, g.tape, g.output, Nat.le_trans (by simp) g.size, fun q hq => (g.block q (by simp; omega) (fun e => by cases e; omega)).trans (Below.heap_alloc w1 _ q hq)⟩
theorem own_cases {w : World} {B : Nat} {v : Value} {xs : List Int} (h : Own w B v xs) : (v = .slice none 0 0 ∧ xs.length = 0) ∨ ∃ g c, v = .slice (some ⟨g, 0, none⟩) xs.length c ∧ B ≤ g ∧ g < w.heap.size := by
  rcases id h.2 with ⟨rfl, hn⟩ | ⟨g, cap, cur, rfl, hB, _⟩
  · exact .inl ⟨rfl, hn⟩
  · exact .inr ⟨_, _, rfl, hB, (h.lt g rfl).2⟩
theorem nth_last {xs : List Int} {y : Int} : nth (xs ++ [y]) xs.length = y := by
  rw [nth_app, if_neg (by omega), if_pos (by omega)]
theorem wpAppInts2 {ops : Array Oper} {rest : List Oper} {o : Oper} {a : Act} {Q : Exit → Act → World → Prop} {w3 : World} {B G c n : Nat} {v : Value} {xs ys : List Int} (hgd : o.guard = none) (s x : Operand)
    (ho : o.op = .call { callee := .builtin .append, args := #[s, x], argTypes := #[33, 33] }) (hs : a.eval s = v) (hown : Own w3 B v xs) (hn : ys.length = n) (hl : xs.length + n < 1000000000) (hB : B ≤ w3.heap.size) (hx : a.eval x = .slice (some ⟨G, 0, none⟩) n c)
    (hc : ∀ j, j < n → w3.cell? ⟨G, j, none⟩ = some (.int .i64 (nth ys j)))
    (h : ∀ v' w4, Own w4 B v' (xs ++ ys) → w3.grownBy w4 v.ownBlock → (v'.ownBlock = v.ownBlock ∨ ∃ k, v'.ownBlock = some k ∧ w3.heap.size ≤ k) → wpList Tryd.prog ops Q rest (a.put o.dst v') w4) :
    wpList Tryd.prog ops Q (o :: rest) a w3 := wpAppIntsO (off := 0) hgd s x ho hs hown hn hl hB hx (fun j hj => by rw [Nat.zero_add]; exact hc j hj) h
def OrdDr (R k d : Nat) (m n : Int) (w : World) (e : Ending) (w' : World) : Prop :=
  ∃ v xs k', e = .returned v ∧ Own w' w.heap.size v xs ∧ xs.length ≤ 6 ∧ (∀ j, j < xs.length → 0 ≤ nth xs j ∧ nth xs j ≤ 10) ∧ (n < 1 → Od xs m) ∧ k' ≤ k + d ∧ w.grownBy w' (some R) ∧ Rd w' R k'

def GphDr (R k d : Nat) (m : Int) (w : World) (e : Ending) (w' : World) : Prop :=
  ∃ p v es k', e = .returned (.agg #[.int .i64 p, v]) ∧ Own w' w.heap.size v es ∧ es.length ≤ 30 ∧ (∀ j, j < es.length → 0 ≤ nth es j ∧ nth es j ≤ 200) ∧ (p = m ∨ p = 0) ∧ k' ≤ k + d ∧ w.grownBy w' (some R) ∧ Rd w' R k'
theorem two_ne {w : World} {cs : List Value} : ∀ b, b ∈ [(w.heap.size, cs)] → b.1 ≠ w.heap.size + 1 := fun b m => by
  rcases List.mem_cons.1 m with rfl | m
  · show w.heap.size ≠ w.heap.size + 1; omega
  · cases m
def Sml (es : List Int) : Prop := ∀ j, j < es.length → 0 ≤ nth es j ∧ nth es j ≤ 200
theorem Sml.app {es : List Int} {y : Int} (h : Sml es) (h0 : 0 ≤ y) (h1 : y ≤ 200) : Sml (es ++ [y]) := fun j hj => by
  by_cases e : j < es.length
  · rw [nth_left e]; exact h j e
  · rw [List.length_append] at hj
    simp at hj
    obtain rfl : j = es.length := by omega
    rw [nth_last]; omega
theorem Sml.cons {es : List Int} {y : Int} (h : Sml es) (h0 : 0 ≤ y) (h1 : y ≤ 200) : Sml (y :: es) := fun j hj => by
  match j, hj with
  | 0, _ => exact ⟨h0, h1⟩
  | j + 1, hj => exact h j (by simpa using hj)
/-- A graph under way: its box behind the answer's. -/
def Gz (w : World) (R : Nat) (p : Int) (k n : Nat) (wr : World) : Prop := ∃ ev es k1, Dx w R [(w.heap.size + 1, [.int .i64 p, ev]), (w.heap.size, [.int .i64 0, .slice none 0 0])] [(ev, es)] k1 wr ∧ Sml es ∧ es.length ≤ n ∧ k1 ≤ k + n
/-- The graph as it is, answered. -/
theorem drgph_end {w w' : World} {R k k1 d : Nat} {p : Int} {ev : Value} {es : List Int} (D : Dx w R [(w.heap.size + 1, [.int .i64 p, ev]), (w.heap.size, [.int .i64 0, .slice none 0 0])] [(ev, es)] k1 w') (hs : Sml es) (hl : es.length ≤ 30) (hk : k1 ≤ k + d) :
    GphDr R k d p w (.returned (.agg #[.int .i64 p, ev])) ((w'.setCell ⟨w.heap.size, 0, none⟩ (.int .i64 p)).setCell ⟨w.heap.size, 1, none⟩ ev) := by
  have D1 : Dx w R [(w.heap.size, [.int .i64 0, .slice none 0 0])] [(ev, es)] k1 w' := D.sub (fun b m => by
    rcases List.mem_cons.1 m with rfl | m
    · exact .tail _ (.head _)
    · cases m) (fun x m => m)
  have D2 := (D1.put (fun b m => (by cases m)) 0 (.int .i64 p)).put (fun b m => (by cases m)) 1 ev
  exact ⟨p, ev, es, k1, rfl, D2.ls _ (.head _), hl, hs, .inl rfl, hk, D2.gr, D2.rd⟩

end Go.Proofs.YtiinifcepcaonaaDoor

/- Draws: DrawOrderOk, DrawOrderBack, DrawOrderThen, DrawGraphOk, DrawGraphMoved. -/
namespace Go.Proofs.YtiinifcepcaonaaDoor
open Go.RowKit

/-- A list as the laws have it. -/
structure Li (w : World) (v : Value) (xs : List Int) : Prop where
  ints : Ints w v xs
  cap : capB v
  few : xs.length ≤ 50
  sml : Sml xs
theorem Li.below {w w' : World} {v : Value} {xs : List Int} (h : Li w v xs) (hb : Below w.heap.size w w') : Li w' v xs := ⟨h.ints.below hb, h.cap, h.few, h.sml⟩
theorem Li.num {w : World} {v : Value} {xs : List Int} (h : Li w v xs) : ∀ j, j < xs.length → intIn (nth xs j) := fun j hj => by have := h.sml j hj; exact ⟨by omega, by omega⟩
theorem own_li {w : World} {B : Nat} {v : Value} {xs : List Int} (h : Own w B v xs) (hl : xs.length ≤ 50) (hs : Sml xs) : Li w v xs :=
  ⟨Ints.of_own h (by unfold maxLen; omega), h.capped, hl, hs⟩
theorem Dx.fin {w w1 w' : World} {Bs : List (Nat × List Value)} {L : List (Value × List Int)} {k : Nat} (D : Dx w1 w.heap.size Bs L k w') (hb : Below w.heap.size w w1) (hs : w.heap.size ≤ w1.heap.size) : Below w.heap.size w w' :=
  hb.grown D.gr hs (fun q e => by cases e; exact Nat.le_refl _)
theorem small_sml {xs : List Int} (h : ∀ j, j < xs.length → 0 ≤ nth xs j ∧ nth xs j ≤ 10) : Sml xs := fun j hj => by have := h j hj; omega

theorem code_more3 {w : World} {s : Value} (h : CodeIn w s) (o : Obj) : CodeIn (w.alloc o) s := by
  rcases h with ⟨a, cap, rfl⟩ | ⟨b, off, len, cap, z, rfl, h1, h2, h3, h4, h5, h6⟩
  · exact .inl ⟨a, cap, rfl⟩
  · exact .inr ⟨b, off, len, cap, z, rfl, h1, h2, h3, by simp; omega, fun j hj => ((below_grow w o).cell (p := ⟨b, off + j, none⟩) h4).trans (h5 j hj), h6⟩
theorem box_drawn3 {w w' : World} {R N : Nat} {P : List Value} (h : Box w N P) (hg : w.grownBy w' (some R)) (hN : N ≠ R) : Box w' N P := by
  obtain ⟨T, hT⟩ := h
  exact ⟨T, by rw [hg.block N (Array.getElem?_eq_some_iff.1 hT).1 fun e => hN (Option.some.inj e)]; exact hT⟩
/-- A list behind a box: the box written to leaves it. -/
theorem own_box2 {w : World} {N B : Nat} {v : Value} {xs : List Int} (hN : N < B) (h : Own w B v xs) (a b : Value) : Own ((w.setCell ⟨N, 0, none⟩ a).setCell ⟨N, 1, none⟩ b) B v xs :=
  own_heap h fun q hq => by
    have := (h.lt q hq).1
    rw [Below.heap_setCell _ _ _ _ (show q ≠ N by omega), Below.heap_setCell _ _ _ _ (show q ≠ N by omega)]

def OoPost (w : World) (e : Ending) (w' : World) : Prop := ∃ v xs n, e = .returned (.tuple #[v, .int .i64 n]) ∧ Li w' v xs ∧ 1 ≤ n ∧ n ≤ 6 ∧ Below w.heap.size w w'
def ObPost (w : World) (e : Ending) (w' : World) : Prop := ∃ v xs, e = .returned v ∧ Li w' v xs ∧ Below w.heap.size w w'
def OtPost (w : World) (e : Ending) (w' : World) : Prop := ∃ v xs u ys, e = .returned (.tuple #[v, u]) ∧ Li w' v xs ∧ Li w' u ys ∧ Below w.heap.size w w'
def GdPost (w : World) (e : Ending) (w' : World) : Prop := ∃ p v es, e = .returned (.agg #[.int .i64 p, v]) ∧ 0 ≤ p ∧ p ≤ 5 ∧ Li w' v es ∧ Below w.heap.size w w'
def GmPost (w : World) (e : Ending) (w' : World) : Prop := ∃ p v es u ys, e = .returned (.tuple #[.agg #[.int .i64 p, v], u]) ∧ 0 ≤ p ∧ p ≤ 5 ∧ Li w' v es ∧ Li w' u ys ∧ Below w.heap.size w w'

end Go.Proofs.YtiinifcepcaonaaDoor
