/- DrawSecretsFrom: two talks with the same further exponents. -/
import Derived.Test.YtacalanlepjljaaDoorDrawKy
import Derived.Test.YtacalanlepjljaaDoorDrawSt
import Derived.Test.YtacalanlepjljaaDoorSofS
import Derived.Deep.Cut
namespace Go.Proofs.YtacalanlepjljaaDoor
open Go.RowKit

/-- While a list of logarithms is made: nothing yet, the number made, appended. -/
def Zl (w : World) (R k : Nat) (av fv : Value) (als fs : List Int) (y : Int) (z : Option (Nat ⊕ Value)) (w' : World) : Prop := match z with
  | none => Ky w R w' k av fv als fs
  | some (.inl M) => Ky w R w' k av fv als fs ∧ Box w' M [.int .i64 y]
  | some (.inr v') => Ky w R w' k v' fv (als ++ [y]) fs
theorem Zl.gr {w : World} {R k : Nat} {av fv : Value} {als fs : List Int} {y : Int} : ∀ {z : Option (Nat ⊕ Value)} {w' : World}, Zl w R k av fv als fs y z w' → w.grownBy w' (some R)
  | none, _, h => Ky.gr h
  | some (.inl _), _, h => Ky.gr h.1
  | some (.inr _), _, h => Ky.gr h
theorem Zl.on {w : World} {R k : Nat} {av fv : Value} {als fs : List Int} {y : Int} : ∀ {z : Option (Nat ⊕ Value)} {w1 w2 : World}, Zl w R k av fv als fs y z w1 → Below w1.heap.size w1 w2 → Zl w R k av fv als fs y z w2
  | none, _, _, h, hb => Ky.on h hb
  | some (.inl _), _, _, h, hb => ⟨Ky.on h.1 hb, h.2.on hb⟩
  | some (.inr _), _, _, h, hb => Ky.on h hb
/-- A talk while it is written, everything else but its box untouched from W on. -/
structure S5 (W : World) (N : Nat) (q : Int) (sv xv tv : Value) (ss xs ts : List Int) (wr : World) : Prop where
  gr : W.grownBy wr (some N)
  nl : N < W.heap.size
  box : Box wr N [sv, .int .i64 q, xv, tv]
  s : Own wr W.heap.size sv ss
  x : Own wr W.heap.size xv xs
  t : Own wr W.heap.size tv ts
  a1 : ∀ k, sv.ownBlock = some k → xv.ownBlock = some k → False
  a2 : ∀ k, sv.ownBlock = some k → tv.ownBlock = some k → False
  a3 : ∀ k, xv.ownBlock = some k → tv.ownBlock = some k → False
section
variable {W : World} {N : Nat} {q : Int} {sv xv tv : Value} {ss xs ts : List Int} {wr w8 : World}
theorem set_grown {j : Nat} {u : Value} {w' : World} (h : W.grownBy w' (some N)) : W.grownBy (w'.setCell ⟨N, j, none⟩ u) (some N) :=
  ⟨h.os, h.tape, h.output, by have := h.size; simpa [World.setCell] using this, fun i hi hr => (Below.heap_setCell _ _ _ _ (by show i ≠ N; intro e; exact hr (by rw [e]))).trans (h.block i hi hr)⟩
theorem S5.on {w' : World} (h : S5 W N q sv xv tv ss xs ts wr) (hb : Below wr.heap.size wr w') : S5 W N q sv xv tv ss xs ts w' := ⟨grown_trans h.gr (grown_below N hb), h.nl, h.box.on hb, own_below h.s hb, own_below h.x hb, own_below h.t hb, h.a1, h.a2, h.a3⟩
theorem S5.say {sv' : Value} {y : Int} (h : S5 W N q sv xv tv ss xs ts wr) (ho : Own w8 W.heap.size sv' (ss ++ [y])) (hg : wr.grownBy w8 sv.ownBlock) (hk : sv'.ownBlock = sv.ownBlock ∨ ∃ b, sv'.ownBlock = some b ∧ wr.heap.size ≤ b) : S5 W N q sv' xv tv (ss ++ [y]) xs ts (w8.setCell ⟨N, 0, none⟩ sv') := by
  have nl := h.nl
  exact ⟨set_grown (grown_own h.gr hg fun b e => (h.s.lt b e).1), nl, (box_app h.box hg h.s nl).set 0 sv', own_off ho nl, own_off (own_stay h.x hg fun k a b => h.a1 k b a) nl, own_off (own_stay h.t hg fun k a b => h.a2 k b a) nl, apart_app h.x h.a1 hk, apart_app h.t h.a2 hk, h.a3⟩
theorem S5.ask {xv' : Value} {y : Int} (h : S5 W N q sv xv tv ss xs ts wr) (ho : Own w8 W.heap.size xv' (xs ++ [y])) (hg : wr.grownBy w8 xv.ownBlock) (hk : xv'.ownBlock = xv.ownBlock ∨ ∃ b, xv'.ownBlock = some b ∧ wr.heap.size ≤ b) : S5 W N q sv xv' tv ss (xs ++ [y]) ts (w8.setCell ⟨N, 2, none⟩ xv') := by
  have nl := h.nl
  exact ⟨set_grown (grown_own h.gr hg fun b e => (h.x.lt b e).1), nl, (box_app h.box hg h.x nl).set 2 xv', own_off (own_stay h.s hg h.a1) nl, own_off ho nl, own_off (own_stay h.t hg fun k a b => h.a3 k b a) nl, fun k a b => apart_app h.s (fun k a b => h.a1 k b a) hk k b a, h.a2, apart_app h.t h.a3 hk⟩
theorem S5.tell {tv' : Value} {y : Int} (h : S5 W N q sv xv tv ss xs ts wr) (ho : Own w8 W.heap.size tv' (ts ++ [y])) (hg : wr.grownBy w8 tv.ownBlock) (hk : tv'.ownBlock = tv.ownBlock ∨ ∃ b, tv'.ownBlock = some b ∧ wr.heap.size ≤ b) : S5 W N q sv xv tv' ss xs (ts ++ [y]) (w8.setCell ⟨N, 3, none⟩ tv') := by
  have nl := h.nl
  exact ⟨set_grown (grown_own h.gr hg fun b e => (h.t.lt b e).1), nl, (box_app h.box hg h.t nl).set 3 tv', own_off (own_stay h.s hg h.a2) nl, own_off (own_stay h.x hg h.a3) nl, own_off ho nl, h.a1, fun k a b => apart_app h.s (fun k a b => h.a2 k b a) hk k b a, fun k a b => apart_app h.x (fun k a b => h.a3 k b a) hk k b a⟩
end
/-- A finished talk. -/
structure Tv where
  sv : Value
  q : Int
  xv : Value
  tv : Value
  ss : List Int
  xs : List Int
  ts : List Int
def Tv.cells (t : Tv) : List Value := [t.sv, .int .i64 t.q, t.xv, t.tv]
abbrev OwnL (w : World) (B : Nat) (v : Value) (L : List Tv) : Prop := w.ownsRow B 24 4 v L.length (L.flatMap Tv.cells)
theorem ownL_heap {w w' : World} {B : Nat} {v : Value} {L : List Tv} (h : OwnL w B v L) (hh : ∀ k, v.ownBlock = some k → w'.heap[k]? = w.heap[k]?) : OwnL w' B v L := by
  refine ⟨h.1, ?_⟩
  rcases h.2 with h2 | ⟨g, cap, cur, rfl, hg, hb, r⟩
  · exact .inl h2
  · exact .inr ⟨g, cap, cur, rfl, hg, by rw [hh g rfl]; exact hb, r⟩
theorem ownL_made (w : World) (T : TypeId) (hT : T = 24) : OwnL (w.alloc (.cells #[] T)) w.heap.size (.slice (some ⟨w.heap.size, 0, none⟩) 0 0) [] := by
  subst hT
  exact World.ownsRow_made w #[] 0 (Nat.le_refl _) (Nat.zero_le _) rfl
theorem infoSome : (Tryd.prog.info? 24).map (fun i => (i.zero, i.size, i.bytes)) = some (some (.agg #[.slice none 0 0, .int .i64 0, .slice none 0 0, .slice none 0 0]), 4, 80) := by kernel_rfl
/-- One talk's lists, where they lie. -/
structure Tok (B : Nat) (v : Value) (t : Tv) (w : World) : Prop where
  fs : Own w B t.sv t.ss
  fx : Own w B t.xv t.xs
  ft : Own w B t.tv t.ts
  l1 : t.ss.length ≤ 5
  l2 : t.xs.length ≤ 5
  l3 : t.ts.length ≤ 5
  p1 : ∀ b, v.ownBlock = some b → t.sv.ownBlock = some b → False
  p2 : ∀ b, v.ownBlock = some b → t.xv.ownBlock = some b → False
  p3 : ∀ b, v.ownBlock = some b → t.tv.ownBlock = some b → False
theorem Tok.move {B : Nat} {v v' : Value} {t : Tv} {w w' : World} (h : Tok B v t w) (hh : ∀ k, B ≤ k → k < w.heap.size → (v.ownBlock = some k → False) → w'.heap[k]? = w.heap[k]?) (hv : ∀ b, v'.ownBlock = some b → v.ownBlock = some b ∨ w.heap.size ≤ b) : Tok B v' t w' :=
  ⟨own_heap h.fs fun k e => hh k (h.fs.lt k e).1 (h.fs.lt k e).2 fun a => h.p1 k a e, own_heap h.fx fun k e => hh k (h.fx.lt k e).1 (h.fx.lt k e).2 fun a => h.p2 k a e, own_heap h.ft fun k e => hh k (h.ft.lt k e).1 (h.ft.lt k e).2 fun a => h.p3 k a e, h.l1, h.l2, h.l3,
    fun b a e => by rcases hv b a with c | c; exact h.p1 b c e; have := (h.fs.lt b e).2; omega, fun b a e => by rcases hv b a with c | c; exact h.p2 b c e; have := (h.fx.lt b e).2; omega, fun b a e => by rcases hv b a with c | c; exact h.p3 b c e; have := (h.ft.lt b e).2; omega⟩
/-- The reader, and the talks so far. -/
structure Q3 (w5 : World) (R : Nat) (L : List Tv) (v : Value) (kk : Nat) (wr : World) : Prop where
  rd : Rd wr R kk
  gr : w5.grownBy wr (some R)
  rl : R < w5.heap.size
  ow : OwnL wr w5.heap.size v L
  al : ∀ t ∈ L, Tok w5.heap.size v t wr
theorem Q3.draw {w5 : World} {R : Nat} {L : List Tv} {v : Value} {kk kk' : Nat} {wr w' : World} (h : Q3 w5 R L v kk wr) (hg : wr.grownBy w' (some R)) (hr : Rd w' R kk') : Q3 w5 R L v kk' w' := by
  have rl := h.rl
  exact ⟨hr, grown_trans h.gr hg, h.rl, ownL_heap h.ow fun k e => hg.block k (h.ow.lt k e).2 fun e2 => by cases e2; have := (h.ow.lt _ e).1; omega,
    fun t ht => (h.al t ht).move (fun k a b _ => hg.block k b fun e2 => by cases e2; omega) fun b a => .inl a⟩
theorem grown_past {w w1 w2 : World} {R N : Nat} (h : w.grownBy w1 (some R)) (k : w1.grownBy w2 (some N)) (hN : w.heap.size ≤ N) : w.grownBy w2 (some R) :=
  ⟨k.os.trans h.os, k.tape.trans h.tape, k.output.trans h.output, Nat.le_trans h.size k.size, fun i hi hr => (k.block i (Nat.lt_of_lt_of_le hi h.size) fun e => by cases e; omega).trans (h.block i hi hr)⟩
theorem Q3.skip {w5 : World} {R N : Nat} {L : List Tv} {v : Value} {kk : Nat} {wk wl : World} (h : Q3 w5 R L v kk wk) (hg : wk.grownBy wl (some N)) (hN : w5.heap.size ≤ N) (hNK : N < wk.heap.size) (htl : ∀ k, v.ownBlock = some k → k < N) (hts : ∀ t ∈ L, (∀ k, t.sv.ownBlock = some k → k < N) ∧ (∀ k, t.xv.ownBlock = some k → k < N) ∧ (∀ k, t.tv.ownBlock = some k → k < N)) : Q3 w5 R L v kk wl := by
  have rl := h.rl
  have hs : ∀ k, k < N → wl.heap[k]? = wk.heap[k]? := fun k hk => hg.block k (by omega) fun e => by cases e; omega
  have hB : Below N wk wl := ⟨hg.os, hg.tape, hg.output, hg.size, hs⟩
  exact ⟨h.rd.upto hB (by omega), grown_past h.gr hg hN, h.rl, ownL_heap h.ow fun k e => hs k (htl k e), fun t ht => ⟨own_heap (h.al t ht).fs fun k e => hs k ((hts t ht).1 k e), own_heap (h.al t ht).fx fun k e => hs k ((hts t ht).2.1 k e), own_heap (h.al t ht).ft fun k e => hs k ((hts t ht).2.2 k e), (h.al t ht).l1, (h.al t ht).l2, (h.al t ht).l3, (h.al t ht).p1, (h.al t ht).p2, (h.al t ht).p3⟩⟩
theorem Q3.more {w5 : World} {R : Nat} {L : List Tv} {v v' : Value} {kk : Nat} {wr w10 : World} {T0 : Tv} {o : Obj} (h : Q3 w5 R L v kk wr) (T : Tok w5.heap.size v T0 wr) (ho : w10.ownsRow w5.heap.size 24 4 v' (L.length + 1) (L.flatMap Tv.cells ++ T0.cells)) (hg : (wr.alloc o).grownBy w10 v.ownBlock) (hk : v'.ownBlock = v.ownBlock ∨ v'.ownBlock = some (wr.alloc o).heap.size) : Q3 w5 R (L ++ [T0]) v' kk w10 := by
  have rl := h.rl
  have hs := h.gr.size
  have hsz : (wr.alloc o).heap.size = wr.heap.size + 1 := by simp
  have mv : ∀ t, Tok w5.heap.size v t wr → Tok w5.heap.size v' t w10 := fun t ht => ht.move
    (fun k a b c => (hg.block k (by omega) fun e => c e.symm).trans (Below.heap_alloc wr o k b))
    fun b e => by
      rcases hk with e2 | e2
      · exact .inl (e2 ▸ e)
      · rw [e2] at e; cases e; exact .inr (by omega)
  refine ⟨rd_own (h.rd.below (below_grow _ _)) hg (fun b e => (h.ow.lt b e).1) rl (by omega), grown_own (grown_trans h.gr (grown_below R (below_grow _ _))) hg fun b e => (h.ow.lt b e).1, rl, ?_, fun t ht => ?_⟩
  · unfold OwnL; rw [List.length_append, List.flatMap_append]; simpa using ho
  · rcases List.mem_append.1 ht with a | a
    · exact mv t (h.al t a)
    · obtain rfl : t = T0 := by simpa using a
      exact mv t T
/-- The two results' boxes while they are written. -/
structure Rz (w : World) (N5 : Nat) (A B : Tv) (wz : World) (z : Nat) (w' : World) : Prop where
  bl : Below N5 wz w'
  hh : ∀ i, i ≠ N5 → i ≠ N5 + 1 → w'.heap[i]? = wz.heap[i]?
  b5 : Box w' N5 (if 1 ≤ z then A.cells else [.slice none 0 0, .int .i64 0, .slice none 0 0, .slice none 0 0])
  b6 : Box w' (N5 + 1) (if 2 ≤ z then B.cells else [.slice none 0 0, .int .i64 0, .slice none 0 0, .slice none 0 0])

theorem Rz.put5 {w : World} {N5 : Nat} {A B : Tv} {wz w1 : World} (h : Rz w N5 A B wz 0 w1) : Rz w N5 A B wz 1 ((((w1.setCell ⟨N5, 0, none⟩ A.sv).setCell ⟨N5, 1, none⟩ (.int .i64 A.q)).setCell ⟨N5, 2, none⟩ A.xv).setCell ⟨N5, 3, none⟩ A.tv) := by
  have b := h.b5
  have c := h.b6
  rw [if_neg (by omega)] at b c
  refine ⟨(((h.bl.setCell (Nat.le_refl _) _).setCell (Nat.le_refl _) _).setCell (Nat.le_refl _) _).setCell (Nat.le_refl _) _, fun i h1 h2 => ((Below.heap_setCell _ _ _ _ h1).trans ((Below.heap_setCell _ _ _ _ h1).trans ((Below.heap_setCell _ _ _ _ h1).trans (Below.heap_setCell _ _ _ _ h1)))).trans (h.hh i h1 h2), ?_, ?_⟩
  · rw [if_pos (by omega)]; exact (((b.set 0 A.sv).set 1 (.int .i64 A.q)).set 2 A.xv).set 3 A.tv
  · rw [if_neg (by omega)]; exact box_same c ((Below.heap_setCell _ _ _ _ (by show N5 + 1 ≠ N5; omega)).trans ((Below.heap_setCell _ _ _ _ (by show N5 + 1 ≠ N5; omega)).trans ((Below.heap_setCell _ _ _ _ (by show N5 + 1 ≠ N5; omega)).trans (Below.heap_setCell _ _ _ _ (by show N5 + 1 ≠ N5; omega)))))
theorem Rz.put6 {w : World} {N5 : Nat} {A B : Tv} {wz w1 : World} (h : Rz w N5 A B wz 1 w1) : Rz w N5 A B wz 2 ((((w1.setCell ⟨N5 + 1, 0, none⟩ B.sv).setCell ⟨N5 + 1, 1, none⟩ (.int .i64 B.q)).setCell ⟨N5 + 1, 2, none⟩ B.xv).setCell ⟨N5 + 1, 3, none⟩ B.tv) := by
  have b := h.b5
  have c := h.b6
  rw [if_pos (by omega)] at b
  rw [if_neg (by omega)] at c
  refine ⟨(((h.bl.setCell (Nat.le_succ _) _).setCell (Nat.le_succ _) _).setCell (Nat.le_succ _) _).setCell (Nat.le_succ _) _, fun i h1 h2 => ((Below.heap_setCell _ _ _ _ h2).trans ((Below.heap_setCell _ _ _ _ h2).trans ((Below.heap_setCell _ _ _ _ h2).trans (Below.heap_setCell _ _ _ _ h2)))).trans (h.hh i h1 h2), ?_, ?_⟩
  · rw [if_pos (by omega)]; exact box_same b ((Below.heap_setCell _ _ _ _ (by show N5 ≠ N5 + 1; omega)).trans ((Below.heap_setCell _ _ _ _ (by show N5 ≠ N5 + 1; omega)).trans ((Below.heap_setCell _ _ _ _ (by show N5 ≠ N5 + 1; omega)).trans (Below.heap_setCell _ _ _ _ (by show N5 ≠ N5 + 1; omega)))))
  · rw [if_pos (by omega)]; exact (((c.set 0 B.sv).set 1 (.int .i64 B.q)).set 2 B.xv).set 3 B.tv
theorem ownL_form {w : World} {B : Nat} {v : Value} {L : List Tv} (h : OwnL w B v L) (hp : 0 < L.length) : ∃ g c, v = .slice (some ⟨g, 0, none⟩) L.length c := by
  rcases h.2 with ⟨_, hn⟩ | ⟨g, cap, cur, rfl, _⟩
  · omega
  · exact ⟨_, _, rfl⟩

theorem code_more2 {w : World} {s : Value} (h : CodeIn w s) (o : Obj) : CodeIn (w.alloc o) s := by
  rcases h with ⟨a, cap, rfl⟩ | ⟨b, off, len, cap, z, rfl, h1, h2, h3, h4, h5, h6⟩
  · exact .inl ⟨a, cap, rfl⟩
  · exact .inr ⟨b, off, len, cap, z, rfl, h1, h2, h3, by simp; omega, fun j hj => ((below_grow w o).cell (p := ⟨b, off + j, none⟩) h4).trans (h5 j hj), h6⟩
theorem box_draw2 {w w' : World} {R N : Nat} {P : List Value} (h : Box w N P) (hg : w.grownBy w' (some R)) (hN : N ≠ R) : Box w' N P := box_same h (hg.block N h.lt fun e => hN (by cases e; rfl))

set_option maxRecDepth 20000 in
set_option maxHeartbeats 12800000 in
theorem drawSecretsFrom_any (s : Value) (w : World) (h : CodeIn w s) : Calls Tryd.prog 31 #[s] w fun e w' => ∃ (g : Int) (kv : Value) (keys : List Int) (need : Int) (A B : Tv), e = .returned (.tuple #[.int .i64 g, kv, .int .i64 need, .agg #[A.sv, .int .i64 A.q, A.xv, A.tv], .agg #[B.sv, .int .i64 B.q, B.xv, B.tv]]) ∧ (1 ≤ need ∧ need ≤ 5) ∧ (1 ≤ keys.length ∧ keys.length ≤ 5) ∧ (A.ss.length ≤ 5 ∧ A.xs.length ≤ 5 ∧ A.ts.length ≤ 5) ∧ (B.ss.length ≤ 5 ∧ B.xs.length ≤ 5 ∧ B.ts.length ≤ 5)
    ∧ Ints w' kv keys ∧ (Ints w' A.sv A.ss ∧ Ints w' A.xv A.xs ∧ Ints w' A.tv A.ts) ∧ (Ints w' B.sv B.ss ∧ Ints w' B.xv B.xs ∧ Ints w' B.tv B.ts) ∧ Below w.heap.size w w' := by
  have H := Lib.hid h; clear h
  obtain ⟨W0, hW0⟩ : ∃ W, W = (w.alloc (.cells #[.slice none 0 0, .int .i64 0, .slice none 0 0, .slice none 0 0] 24)).alloc (.cells #[.slice none 0 0, .int .i64 0, .slice none 0 0, .slice none 0 0] 24) := ⟨_, rfl⟩
  have HC := Lib.hid (show CodeIn W0 s by rw [hW0]; exact code_more2 (code_more2 H.out _) _)
  have HZ0 := Lib.hid (show W0.heap.size = w.heap.size + 2 by rw [hW0]; simp)
  have BX0 := Lib.hid (show Box W0 w.heap.size [.slice none 0 0, .int .i64 0, .slice none 0 0, .slice none 0 0] ∧ Box W0 (w.heap.size + 1) [.slice none 0 0, .int .i64 0, .slice none 0 0, .slice none 0 0] by rw [hW0]; obtain ⟨a, b, _⟩ := boxes2 (P := [.slice none 0 0, .int .i64 0, .slice none 0 0, .slice none 0 0]) (R := [.slice none 0 0, .int .i64 0, .slice none 0 0, .slice none 0 0]) (T1 := 24) (T2 := 24) (Below.refl _ _); exact ⟨a, b⟩)
  have HB0 := Lib.hid (show Below w.heap.size w W0 by rw [hW0]; exact Below.on (below_grow _ _) (below_grow _ _))
  go_enter Tryd.func31, Tryd.ntmps31
  go_wp2_with fail
  rw [← hW0]
  clear hW0 H
  refine (open_any _ _ HC.out).mono ?_
  rintro e w1 ⟨rfl, H1, hb1⟩
  have RD := Lib.hid H1
  have B1 := Lib.hid (Below.on HB0.out hb1)
  have BX1 := Lib.hid (show Box w1 w.heap.size [.slice none 0 0, .int .i64 0, .slice none 0 0, .slice none 0 0] ∧ Box w1 (w.heap.size + 1) [.slice none 0 0, .int .i64 0, .slice none 0 0, .slice none 0 0] from ⟨BX0.out.1.on hb1, BX0.out.2.on hb1⟩)
  clear H1 hb1 HC BX0 HB0
  obtain ⟨R, hR⟩ : ∃ R, R = W0.heap.size := ⟨_, rfl⟩
  have HRR := Lib.hid (show R = w.heap.size + 2 from hR.trans HZ0.out)
  rw [← hR] at RD ⊢
  clear hR HZ0
  go_wp2_with fail
  refine (drawkeys_any R 0 20 _ RD.out (by omega) (by omega) (by omega)).mono ?_
  rintro e w2 ⟨g, kv, keys, need, sv, secrets, k2, rfl, hg, hd, hl, hs, hk2, hno, hK⟩
  obtain ⟨n, hn⟩ : ∃ n, keys.length = n := ⟨_, rfl⟩
  have HN := Lib.hid hn
  obtain ⟨KB, KC, rfl⟩ := own_slice' hK.ok (by omega)
  have HKC := Lib.hid (show ∀ w', w2.grownBy w' (some R) → (∀ q, q < n → w'.cell? ⟨KB, q, none⟩ = some (.int .i64 (nth keys q))) ∧ Ints w' (.slice (some ⟨KB, 0, none⟩) keys.length KC) keys ∧ (Box w' w.heap.size [.slice none 0 0, .int .i64 0, .slice none 0 0, .slice none 0 0] ∧ Box w' (w.heap.size + 1) [.slice none 0 0, .int .i64 0, .slice none 0 0, .slice none 0 0]) ∧ Below w.heap.size w w' ∧ Own w' (w.heap.size + 2) (.slice (some ⟨KB, 0, none⟩) keys.length KC) keys from fun w' hg => ⟨fun q hq => ((own_draw hK.ok hK.rl hg).set rfl (by omega) 0).1.2, Ints.of_own (own_draw hK.ok hK.rl hg) (by unfold maxLen; omega), ⟨box_draw2 BX1.out.1 (grown_trans hK.gr hg) (by have := HRR.out; omega), box_draw2 BX1.out.2 (grown_trans hK.gr hg) (by have := HRR.out; omega)⟩, below_of_grown B1.out (grown_trans hK.gr hg) B1.out.size (by have := HRR.out; omega), own_mono (own_draw hK.ok hK.rl hg) (by have := HRR.out; have := hK.rl; omega)⟩)
  have HRD := Lib.hid hK.rd
  have hrl : R < w2.heap.size := HRD.out.lt
  have HW2 := Lib.hid (show w.heap.size + 2 < w2.heap.size by have := HRR.out; omega)
  rw [hn] at hl hno HKC ⊢
  have HNO := Lib.hid hno
  clear hK hn RD BX1 B1 hrl hno
  have K4 := Lib.hid (show Ky w2 R (w2.alloc (.cells #[] 3)) k2 (.slice (some ⟨w2.heap.size, 0, none⟩) 0 0) (.slice none 0 0) [] [] from
    ⟨HRD.out.below (below_grow _ _), grown_below _ (below_grow _ _), own_made w2 3 rfl, World.ownsRow_nil _ _ _ _, fun b e1 e2 => by simp [Value.ownBlock] at e2, HRD.out.lt⟩)
  clear HRD
  go_wp2
  go_loopw [12, 13] (fun av i wr => ∃ (k : Nat) (als : List Int), k ≤ n ∧ i = .int .i64 k ∧ als.length = k ∧ Hid (∀ q, q < k → elB g (nth keys q) = true ∧ exB g (nth als q) = true) ∧ Hid (Ky w2 R wr k2 av (.slice none 0 0) als [])) (fun _ i _ => n - (intOf i).toNat)
  case atStart => exact ⟨0, [], by omega, rfl, rfl, Lib.hid fun q hq => by omega, K4⟩
  case round =>
    obtain ⟨k, als, hk, rfl, hla, hP, hK⟩ := hrel
    obtain ⟨wo, rfl⟩ : ∃ wo : World, wo = wr := ⟨_, rfl⟩
    have HLA := Lib.hid hla
    clear hla K4
    by_cases hkn : k < n
    · have hk1 : (k : Int) < (n : Int) := by omega
      have hkd : decide ((k : Int) < (n : Int)) = true := by simpa using hk1
      have c0 := (HKC.out _ hK.out.gr).1 k hkn
      cases hel : elB g (nth keys k)
      · go_wp2_with fail
        refine (sel_any g (nth keys k) _).mono ?_
        rintro e w3 ⟨rfl, hb⟩
        rw [hel]
        have K3 := Lib.hid (hK.out.on hb)
        clear hb hK c0
        have hne : ((k : Int) != (n : Int)) = true := by simp; omega
        obtain ⟨av, hav⟩ : ∃ v : Value, v = u12 := ⟨_, rfl⟩
        rw [← hav] at K3 ⊢
        clear hav
        obtain ⟨AA, AC, ea⟩ := Own.form K3.out.ok
        rw [HLA.out] at ea
        subst ea
        have zb := Lib.hid (HKC.out _ K3.out.gr)
        have z0 := zb.out.2.2.1.1.cell 0; have z1 := zb.out.2.2.1.1.cell 1; have z2 := zb.out.2.2.1.1.cell 2; have z3 := zb.out.2.2.1.1.cell 3; have f0 := zb.out.2.2.1.1.frozen 0; have f1 := zb.out.2.2.1.1.frozen 1; have f2 := zb.out.2.2.1.1.frozen 2; have f3 := zb.out.2.2.1.1.frozen 3
        have y0 := zb.out.2.2.1.2.cell 0; have y1 := zb.out.2.2.1.2.cell 1; have y2 := zb.out.2.2.1.2.cell 2; have y3 := zb.out.2.2.1.2.cell 3; have e0 := zb.out.2.2.1.2.frozen 0; have e1 := zb.out.2.2.1.2.frozen 1; have e2 := zb.out.2.2.1.2.frozen 2; have e3 := zb.out.2.2.1.2.frozen 3
        simp at z0 z1 z2 z3 y0 y1 y2 y3
        go_wp2
        skip
        refine bodyPost_ret (v := .tuple #[.int .i64 g, .slice (some ⟨KB, 0, none⟩) n KC, .int .i64 need, .agg #[.slice none 0 0, .int .i64 0, .slice none 0 0, .slice none 0 0], .agg #[.slice none 0 0, .int .i64 0, .slice none 0 0, .slice none 0 0]]) ?_ rfl ?_
        · simp [results, Tryd.results31, go_sem, z0, z1, z2, z3, y0, y1, y2, y3]
        · have OK9 := Lib.hid zb.out.2.2.2.2
          have off : Hid (∀ {N j : Nat} {u : Value} {w9 : World}, Own w9 (w.heap.size + 2) (.slice (some ⟨KB, 0, none⟩) n KC) keys → N < w.heap.size + 2 → Own (w9.setCell ⟨N, j, none⟩ u) (w.heap.size + 2) (.slice (some ⟨KB, 0, none⟩) n KC) keys) := Lib.hid fun h hn => own_off h hn
          refine ⟨g, _, keys, need, ⟨.slice none 0 0, 0, .slice none 0 0, .slice none 0 0, [], [], []⟩, ⟨.slice none 0 0, 0, .slice none 0 0, .slice none 0 0, [], [], []⟩, rfl, hd, by rw [HN.out]; exact hl, ⟨by simp, by simp, by simp⟩, ⟨by simp, by simp, by simp⟩, Ints.of_own (off.out (off.out (off.out (off.out (off.out (off.out (off.out (off.out OK9.out (by omega)) (by omega)) (by omega)) (by omega)) (by omega)) (by omega)) (by omega)) (by omega)) (by rw [HN.out]; unfold maxLen; omega), ⟨.inl ⟨rfl, rfl⟩, .inl ⟨rfl, rfl⟩, .inl ⟨rfl, rfl⟩⟩, ⟨.inl ⟨rfl, rfl⟩, .inl ⟨rfl, rfl⟩, .inl ⟨rfl, rfl⟩⟩, ?_⟩
          exact (((((((zb.out.2.2.2.1.setCell (Nat.le_refl _) _).setCell (Nat.le_refl _) _).setCell (Nat.le_refl _) _).setCell (Nat.le_refl _) _).setCell (Nat.le_succ _) _).setCell (Nat.le_succ _) _).setCell (Nat.le_succ _) _).setCell (Nat.le_succ _) _
      · obtain ⟨Y, hY⟩ : ∃ Y, glog g (bas g) (nth keys k) = Y := ⟨_, rfl⟩
        have HLG := Lib.hid (show ∀ w' : World, Calls Tryd.prog 77 #[.int .i64 g, .int .i64 (bas g), .int .i64 (nth keys k)] w' fun e w'' => e = .returned (.int .i64 Y) ∧ Below w'.heap.size w' w'' from fun w' => by have := slog_any g (bas g) (nth keys k) w'; rw [hY] at this; exact this)
        have HPN := Lib.hid (show ∀ q, q < k + 1 → elB g (nth keys q) = true ∧ exB g (nth (als ++ [Y]) q) = true from fun q hq => by
          rw [nth_app, HLA.out]
          by_cases e : q < k
          · rw [if_pos e]; exact hP.out q e
          · obtain rfl : q = k := by omega
            rw [if_neg e, if_pos rfl, ← hY]; exact ⟨hel, glog_ex hel⟩)
        clear hY
        go_wp2_with fail
        refine (sel_any g (nth keys k) _).mono ?_
        rintro e w3 ⟨rfl, hb⟩
        rw [hel]
        have K3 := Lib.hid (hK.out.on hb)
        clear hb hK c0 hP
        go_upto_region 7 with (fail)
        apply wp_region_H (Z := Option (Nat ⊕ Value)) (S := fun k => k == 9 || k == 10) (C := fun z w' => Hid (Zl w2 R k2 u12 (.slice none 0 0) als [] Y z w')) [0, 1, 2, 3, 4, 5, 6, 7, 8] none
        · kernel_rfl
        · kernel_rfl
        · kernel_rfl
        · exact ⟨rfl, rfl, rfl, rfl, rfl, rfl, rfl, rfl, rfl, trivial⟩
        · rfl
        · decide
        · exact Lib.hid (K3.out.on (Below.refl _ _).drew)
        · intro z
          dsimp only [pickL, nthO]
          repeat (first | go_big_quiet_skip | (go_big_quiet_want; go_big_quiet_op; first | go_big_quiet_on | (refine ⟨_, fun _ _ => rfl, ?_⟩; go_big_quiet_on)))
          go_big_quiet_want
          go_big_quiet_op
          go_big_quiet_call ((intro hw; exact (sbas_any g _).mono fun _ _ ⟨he, hb⟩ => ⟨he, Lib.hid (Zl.on hw.out hb)⟩))
          repeat (first | go_big_quiet_skip | (go_big_quiet_want; go_big_quiet_op; first | go_big_quiet_on | (refine ⟨_, fun _ _ => rfl, ?_⟩; go_big_quiet_on)))
          go_big_quiet_want
          go_big_quiet_op
          refine ⟨.int .i64 (nth keys k), fun w' hw' => ?_, ?_⟩
          · have q0 := (HKC.out _ (Zl.gr hw'.out)).1 k hkn
            simp [go_sem, q0]
          go_big_quiet_on
          repeat (first | go_big_quiet_skip | (go_big_quiet_want; go_big_quiet_op; first | go_big_quiet_on | (refine ⟨_, fun _ _ => rfl, ?_⟩; go_big_quiet_on)))
          go_big_quiet_want
          go_big_quiet_op
          go_big_quiet_call ((intro hw; exact (HLG.out _).mono fun _ _ ⟨he, hb⟩ => ⟨he, Lib.hid (Zl.on hw.out hb)⟩))
          repeat (first | go_big_quiet_skip | (go_big_quiet_want; go_big_quiet_op; first | go_big_quiet_on | (refine ⟨_, fun _ _ => rfl, ?_⟩; go_big_quiet_on)))
          exact wpQuiet_nil rfl
        · skip
          refine wpAnyH_special (i := 9) (d := some 58) rfl (by kernel_rfl) rfl rfl (by kernel_rfl) fun wa hc => ⟨.slice (some ⟨wa.heap.size, 0, none⟩) 1 1, wa.alloc (.cells #[.int .i64 Y] 3), some (.inl wa.heap.size), .inl (by kernel_rfl), Lib.hid ⟨Ky.on (show Ky _ _ _ _ _ _ _ _ from hc.out) (below_grow _ _), Box.made wa [.int .i64 Y] _⟩, ?_⟩
          clear hc
          refine wpAnyH_app2 (i := 10) (d := some 59) (v := u12) (xs := als) (y := Y) (B := w2.heap.size) (N := wa.heap.size) (.tmp 49) (.tmp 58) rfl (by kernel_rfl) rfl rfl (by kernel_rfl) rfl rfl rfl fun wb hc => ⟨hc.out.1.ok, by rw [HLA.out]; omega, hc.out.1.le, hc.out.2, fun v' wd o4 g4 k4 => ⟨some (.inr v'), Lib.hid (hc.out.1.app1 o4 g4 k4), ?_⟩⟩
          clear hc o4 g4 k4
          refine takeH (i := 11) (d := some 12) v' rfl (by kernel_rfl) rfl rfl (by kernel_rfl) (by kernel_rfl) (by kernel_rfl) (fun w => by kernel_rfl) ?_
          refine ⟨by kernel_rfl, fun wz hz => ?_⟩
          have K9 := Lib.hid (show Ky w2 R wz k2 v' (.slice none 0 0) (als ++ [Y]) [] from hz.out)
          simp only [Act.put, List.setIfInBounds_toArray, List.set_cons_zero, List.set_cons_succ]
          clear hz K3
          go_wp2
          go_roundw
          case rel => exact ⟨k + 1, als ++ [Y], by omega, by go_num, by rw [List.length_append, HLA.out]; rfl, HPN, K9⟩
          case measure => simp [intOf]; omega
    · obtain rfl : n = k := by omega
      have hkd : decide ((n : Int) < (n : Int)) = false := by simp
      have hne : ((n : Int) != (n : Int)) = false := by simp
      have hn0 : ((n : Int) == 0) = false := by simp; omega
      obtain ⟨g0, g4⟩ := elB_group (hP.out 0 (by omega)).1
      have ob := ord_bd g0 g4
      have HNG := Lib.hid (HNO.out (by omega))
      have HEA := Lib.hid (show ∀ q, q < n → exB g (nth als q) = true from fun q hq => (hP.out q hq).2)
      clear hP HNO ob
      obtain ⟨av, hav⟩ : ∃ v : Value, v = u12 := ⟨_, rfl⟩
      rw [← hav] at hK ⊢
      clear hav
      obtain ⟨AB, AC, rfl⟩ := own_slice' hK.out.ok (by rw [HLA.out]; omega)
      rw [HLA.out] at hK ⊢
      have K5 := Lib.hid (show Ky w2 R (wo.alloc (.cells #[] 3)) k2 (.slice (some ⟨AB, 0, none⟩) n AC) (.slice (some ⟨wo.heap.size, 0, none⟩) 0 0) als [] from
        ⟨hK.out.rd.below (below_grow _ _), grown_trans hK.out.gr (grown_below R (below_grow _ _)), own_below hK.out.ok (below_grow _ _), own_mono (own_made wo 3 rfl) hK.out.le, fun b e1 e2 => by have := (hK.out.ok.lt b e1).2; simp [Value.ownBlock] at e2; omega, hK.out.rl⟩)
      clear hK
      go_wp2
      go_loopw [14, 15] (fun fv i wr => ∃ (j : Nat) (fs : List Int) (kk : Nat), j ≤ n ∧ i = .int .i64 j ∧ fs.length = j ∧ kk ≤ k2 + 2 * j ∧ Hid (∀ q, q < j → exB g (nth fs q) = true) ∧ Hid (Ky w2 R wr kk (.slice (some ⟨AB, 0, none⟩) n AC) fv als fs)) (fun _ i _ => n - (intOf i).toNat)
      case atStart => exact ⟨0, [], k2, by omega, rfl, rfl, by omega, Lib.hid fun q hq => by omega, K5⟩
      case round =>
        obtain ⟨j, fs, kk, hj, rfl, hlf, hkk, hP, hK⟩ := hrel
        obtain ⟨wi, rfl⟩ : ∃ wi : World, wi = wr := ⟨_, rfl⟩
        have HLF := Lib.hid hlf
        clear hlf K5
        by_cases hjn : j < n
        · have hj1 : (j : Int) < (n : Int) := by omega
          go_wp2_with fail
          refine (drawex0_any R kk g _ g0 g4 hK.out.rd (by omega)).mono ?_
          rintro e w3 ⟨s5, rfl, hx5, g5, k5, hk5, r5⟩
          have K6 := Lib.hid (hK.out.draw g5 r5)
          clear g5 r5 hK
          have ov := K6.out.os
          have hle := K6.out.le
          have HPN := Lib.hid (show ∀ q, q < j + 1 → exB g (nth (fs ++ [s5]) q) = true from fun q hq => by
            rw [nth_app, HLF.out]
            by_cases e : q < j
            · rw [if_pos e]; exact hP.out q e
            · rw [if_neg e, if_pos (by omega)]; exact hx5)
          clear hP hx5
          go_wp2_with (at_builtin; refine wpAppInt rfl _ _ rfl rfl ov (by rw [HLF.out]; omega) (by omega) rfl ?_)
          intro v8 w8 o8 g8 k8
          have K8 := Lib.hid (K6.out.app2 o8 g8 k8)
          clear o8 g8 k8 ov hle K6
          go_wp2
          go_roundw
          case rel => exact ⟨j + 1, fs ++ [s5], k5, by omega, by go_num, by rw [List.length_append, HLF.out]; rfl, by omega, HPN, K8⟩
          case measure => simp [intOf]; omega
        · obtain rfl : n = j := by omega
          have hj1 : ¬ (n : Int) < (n : Int) := by omega
          obtain ⟨fv, hfv⟩ : ∃ v : Value, v = u14 := ⟨_, rfl⟩
          rw [← hfv] at hK ⊢
          clear hfv
          obtain ⟨FB, FC, rfl⟩ := own_slice' hK.out.os (by rw [HLF.out]; omega)
          rw [HLF.out] at hK ⊢
          have HEF := Lib.hid hP.out
          clear hP
          have HAF := Lib.hid (show ∀ w', wi.grownBy w' (some R) → (∀ q, q < n → w'.cell? ⟨AB, q, none⟩ = some (.int .i64 (nth als q))) ∧ (∀ q, q < n → w'.cell? ⟨FB, q, none⟩ = some (.int .i64 (nth fs q))) ∧ w2.grownBy w' (some R) from fun w' hg => ⟨fun q hq => ((own_draw hK.out.ok hK.out.rl hg).set HLA.out hq 0).1.2, fun q hq => ((own_draw hK.out.os hK.out.rl hg).set HLF.out hq 0).1.2, grown_trans hK.out.gr hg⟩)
          have Q0 := Lib.hid (show Q3 wi R [] (.slice (some ⟨wi.heap.size, 0, none⟩) 0 0) kk (wi.alloc (.cells #[] 24)) from ⟨hK.out.rd.below (below_grow _ _), grown_below R (below_grow _ _), hK.out.rd.lt, ownL_made wi _ rfl, fun t ht => by cases ht⟩)
          have HWI := Lib.hid (show w2.heap.size ≤ wi.heap.size from hK.out.le)
          clear hK
          obtain ⟨k5, hk5⟩ : ∃ k5, k5 = kk := ⟨_, rfl⟩
          rw [← hk5] at Q0 hkk
          clear hk5
          go_wp2
          go_loopw [16, 17] (fun v i wr => ∃ (jj : Nat) (L : List Tv) (kk : Nat), jj ≤ 2 ∧ i = .int .i64 jj ∧ L.length = jj ∧ kk ≤ k5 + 20 * jj ∧ Hid (Q3 wi R L v kk wr)) (fun _ i _ => 2 - (intOf i).toNat)
          case atStart => exact ⟨0, [], k5, by omega, rfl, rfl, by omega, Q0⟩
          case round =>
            obtain ⟨jj, L, kq, hjj, rfl, hLl, hkq, hQ⟩ := hrel
            obtain ⟨wj, rfl⟩ : ∃ wj : World, wj = wr := ⟨_, rfl⟩
            have HLL := Lib.hid hLl
            clear hLl Q0
            by_cases hj2 : jj < 2
            · have hj1 : (jj : Int) < 2 := by omega
              obtain ⟨tl, htl⟩ : ∃ v : Value, v = u16 := ⟨_, rfl⟩
              rw [← htl] at hQ ⊢
              clear htl
              go_wp2_with fail
              refine (drawex0_any R kq g _ g0 g4 hQ.out.rd (by omega)).mono ?_
              rintro e w6 ⟨q0, rfl, hxq, g6, k6, hk6, r6⟩
              have Q6 := Lib.hid (hQ.out.draw g6 r6)
              clear g6 r6 hQ
              have HXQ := Lib.hid hxq
              clear hxq
              obtain ⟨w7, hw7⟩ : ∃ z, z = (w6.alloc (.cells #[.slice none 0 0, .int .i64 q0, .slice none 0 0, .slice none 0 0] 24)) := ⟨_, rfl⟩
              have Q7 := Lib.hid (show Q3 wi R L tl k6 w7 by rw [hw7]; exact Q6.out.draw (grown_below R (below_grow _ _)) (Q6.out.rd.below (below_grow _ _)))
              have X7 := Lib.hid (show Box w7 w6.heap.size [.slice none 0 0, .int .i64 q0, .slice none 0 0, .slice none 0 0] by rw [hw7]; exact Box.made w6 _ _)
              have HN6 := Lib.hid (show wi.heap.size ≤ w6.heap.size from Q6.out.gr.size)
              have HQ6 := Lib.hid (show (∀ k, tl.ownBlock = some k → k < w6.heap.size) ∧ ∀ t ∈ L, (∀ k, t.sv.ownBlock = some k → k < w6.heap.size) ∧ (∀ k, t.xv.ownBlock = some k → k < w6.heap.size) ∧ (∀ k, t.tv.ownBlock = some k → k < w6.heap.size) from ⟨fun k e => (Q6.out.ow.lt k e).2, fun t ht => ⟨fun k e => ((Q6.out.al t ht).fs.lt k e).2, fun k e => ((Q6.out.al t ht).fx.lt k e).2, fun k e => ((Q6.out.al t ht).ft.lt k e).2⟩⟩)
              have HZ7 := Lib.hid (show w7.heap.size = w6.heap.size + 1 by rw [hw7]; simp)
              have K7 := Lib.hid (show Ky (w6.alloc (.cells #[.slice none 0 0, .int .i64 q0, .slice none 0 0, .slice none 0 0] 24)) R (((w6.alloc (.cells #[.slice none 0 0, .int .i64 q0, .slice none 0 0, .slice none 0 0] 24)).alloc (.cells #[.int .i64 0] 3)).alloc (.cells #[.int .i64 q0] 3)) k6 (.slice (some ⟨w6.heap.size + 1, 0, none⟩) 1 1) (.slice (some ⟨w6.heap.size + 2, 0, none⟩) 1 1) (nodes 0) [q0] from
                ⟨((Q6.out.rd.below (below_grow _ _)).below (below_grow _ _)).below (below_grow _ _), grown_below R (Below.on (below_grow _ _) (below_grow _ _)), by have := own_below (own_one (w6.alloc (.cells #[.slice none 0 0, .int .i64 q0, .slice none 0 0, .slice none 0 0] 24)) 0) (below_grow _ (.cells #[.int .i64 q0] 3)); have h2 : nodes 0 = [0] := rfl; rw [h2]; simpa using this, own_mono (B := w6.heap.size + 2) (by have := own_one ((w6.alloc (.cells #[.slice none 0 0, .int .i64 q0, .slice none 0 0, .slice none 0 0] 24)).alloc (.cells #[.int .i64 0] 3)) q0; simpa using this) (by simp), fun b e1 e2 => by simp [Value.ownBlock] at e1 e2; omega, by have := Q6.out.rd.lt; simp; omega⟩)
              obtain ⟨cc, hcc⟩ : ∃ cc : Nat, cc = ((n : Int) - need).toNat := ⟨_, rfl⟩
              have hcn1 : cc ≤ n - 1 := by omega
              have HCC := Lib.hid (show ((cc : Int) = (n : Int) - need) ∨ (cc = 0 ∧ (n : Int) - need ≤ 0) by omega)
              clear hcc Q6
              go_wp2
              go_loopw [19, 20, 21] (fun pv vv i wr => ∃ (c : Nat) (vs : List Int) (kk : Nat), c ≤ cc ∧ i = .int .i64 c ∧ vs.length = c + 1 ∧ kk ≤ k6 + 2 * c ∧ Hid (∀ q, q < c + 1 → exB g (nth vs q) = true) ∧ Hid (Ky w7 R wr kk pv vv (nodes c) vs)) (fun _ _ i _ => cc - (intOf i).toNat)
              case atStart => exact ⟨0, [q0], k6, by omega, rfl, rfl, by omega, Lib.hid (fun q hq => by rw [show q = 0 by omega]; exact HXQ.out), by rw [hw7]; exact K7⟩
              case round =>
                clear hw7 K7
                obtain ⟨cx, vs, kk4, hcx, rfl, hlv, hkk4, hV, hK⟩ := hrel
                obtain ⟨wk, rfl⟩ : ∃ wk : World, wk = wr := ⟨_, rfl⟩
                have HLV := Lib.hid hlv
                clear hlv
                have hcr := HCC.out
                by_cases hcn : cx < cc
                · have hc1 : (cx : Int) < (n : Int) - need := by omega
                  clear hcr
                  have ov := hK.out.ok
                  have hle := hK.out.le
                  have hln := nodes_len cx
                  have HNS := Lib.hid (nodes_succ cx)
                  go_upto_region 26 with (at_builtin; refine wpAppInt rfl _ _ rfl rfl ov (by omega) (by omega) rfl ?_)
                  intro v8 w8 o8 g8 k8
                  rw [← HNS.out] at o8
                  have K8 := Lib.hid (hK.out.app1 o8 g8 k8)
                  clear o8 g8 k8 ov hle hK hln
                  go_wp2_with fail
                  refine (drawex0_any R kk4 g _ g0 g4 K8.out.rd (by omega)).mono ?_
                  rintro e w9 ⟨s9, rfl, hx9, g9, k9, hk9, r9⟩
                  have K9 := Lib.hid (K8.out.draw g9 r9)
                  clear g9 r9 K8
                  have HVN := Lib.hid (show ∀ q, q < cx + 1 + 1 → exB g (nth (vs ++ [s9]) q) = true from fun q hq => by
                    rw [nth_app, HLV.out]
                    by_cases e : q < cx + 1
                    · rw [if_pos e]; exact hV.out q e
                    · rw [if_neg e, if_pos (by omega)]; exact hx9)
                  clear hV hx9
                  have ov := K9.out.os
                  have hle := K9.out.le
                  go_wp2_with (at_builtin; refine wpAppInt rfl _ _ rfl rfl ov (by rw [HLV.out]; omega) (by omega) rfl ?_)
                  intro v10 w10 o10 g10 k10
                  have K10 := Lib.hid (K9.out.app2 o10 g10 k10)
                  clear o10 g10 k10 ov hle K9
                  go_wp2
                  go_roundw
                  case rel => exact ⟨cx + 1, vs ++ [s9], k9, by omega, by go_num, by rw [List.length_append, HLV.out]; rfl, by omega, HVN, K10⟩
                  case measure => simp [intOf]; omega
                · obtain rfl : cc = cx := by omega
                  have hc1 : ¬ (cc : Int) < (n : Int) - need := by omega
                  clear hcr
                  obtain ⟨pv, hpv⟩ : ∃ v : Value, v = u19 := ⟨_, rfl⟩
                  obtain ⟨vv, hvv⟩ : ∃ v : Value, v = u20 := ⟨_, rfl⟩
                  rw [← hpv, ← hvv] at hK ⊢
                  clear hpv hvv
                  obtain ⟨N, hN⟩ : ∃ N, N = w6.heap.size := ⟨_, rfl⟩
                  have HNW := Lib.hid (show wi.heap.size ≤ N by rw [hN]; exact HN6.out)
                  have HQN := Lib.hid (show (∀ k, tl.ownBlock = some k → k < N) ∧ ∀ t ∈ L, (∀ k, t.sv.ownBlock = some k → k < N) ∧ (∀ k, t.xv.ownBlock = some k → k < N) ∧ (∀ k, t.tv.ownBlock = some k → k < N) by rw [hN]; exact HQ6.out)
                  have HN7 := Lib.hid (show N < w7.heap.size by rw [hN]; have := HZ7.out; omega)
                  have X8 := Lib.hid (show Box wk N [.slice none 0 0, .int .i64 q0, .slice none 0 0, .slice none 0 0] by rw [hN]; exact box_draw2 X7.out hK.out.gr (by have := Q7.out.rl; have := HN6.out; omega))
                  have Q8 := Lib.hid (Q7.out.draw hK.out.gr hK.out.rd)
                  rw [← hN]
                  clear hN HN6 HZ7 X7 Q7 HQ6
                  have HOP := Lib.hid hK.out.ok
                  have HOV := Lib.hid hK.out.os
                  have HNK := Lib.hid (show N < wk.heap.size from X8.out.lt)
                  clear hK
                  have FB := Lib.hid (show ∀ w', wk.grownBy w' (some N) → (Ints w' pv (nodes cc) ∧ Ints w' vv vs) ∧ (∀ q, q < n → w'.cell? ⟨AB, q, none⟩ = some (.int .i64 (nth als q))) ∧ (∀ q, q < n → w'.cell? ⟨FB, q, none⟩ = some (.int .i64 (nth fs q))) from fun w' hg => by
                    have hq := HAF.out w' (grown_past Q8.out.gr hg HNW.out)
                    exact ⟨⟨Ints.of_own (own_draw HOP.out HN7.out hg) (by rw [nodes_len]; unfold maxLen; omega), Ints.of_own (own_draw HOV.out HN7.out hg) (by rw [HLV.out]; unfold maxLen; omega)⟩, hq.1, hq.2.1⟩)
                  obtain ⟨QQ, hQQ⟩ : ∃ f : Nat → Int, f = fun k : Nat => lag g (nodes cc) vs ((k : Int) + 1) := ⟨_, rfl⟩
                  have HAT := Lib.hid (show ∀ (k : Nat) (w' : World), k < n → wk.grownBy w' (some N) → Calls Tryd.prog 48 #[.int .i64 g, pv, vv, .int .i64 ((k : Int) + 1)] w' fun e w'' => e = .returned (.int .i64 (QQ k)) ∧ Below w'.heap.size w' w'' from fun k w' hk hg => by
                    have := sat_wide g ((k : Int) + 1) pv vv (nodes cc) vs w' (FB.out w' hg).1.1 (FB.out w' hg).1.2 (by rw [nodes_len]; exact HLV.out) (by rw [nodes_len]; omega) (fun q hq => by rw [nodes_len] at hq; rw [nodes_nth cc q (by omega)]; exact exB_true.2 ⟨⟨g0, g4⟩, by omega, by have := HNG.out; omega⟩) (fun q hq => by rw [nodes_len] at hq; exact hV.out q hq) g0 g4 (by omega) (by omega) (nodes_apart g0 g4 (by omega) (by have := HNG.out; omega))
                    rw [hQQ]; exact this)
                  have HQX := Lib.hid (show ∀ k, exB g (QQ k) = true from fun k => by rw [hQQ]; exact lag_ex g0 g4 _ _ _)
                  clear hQQ hV
                  have S0 := Lib.hid (show S5 wk N q0 (.slice none 0 0) (.slice none 0 0) (.slice none 0 0) [] [] [] wk from ⟨grown_below N (Below.refl _ _), HNK.out, X8.out, World.ownsRow_nil _ _ _ _, World.ownsRow_nil _ _ _ _, World.ownsRow_nil _ _ _ _, fun k hk => by simp [Value.ownBlock] at hk, fun k hk => by simp [Value.ownBlock] at hk, fun k hk => by simp [Value.ownBlock] at hk⟩)
                  clear X8
                  go_wp2
                  go_loopw [22] (fun i wr => ∃ (j : Nat) (sv xv tv : Value) (ss xs ts : List Int), j ≤ n ∧ i = .int .i64 j ∧ ss.length = j ∧ xs.length = j ∧ ts.length = j ∧ Hid (S5 wk N q0 sv xv tv ss xs ts wr)) (fun i _ => n - (intOf i).toNat)
                  case atStart => exact ⟨0, _, _, _, [], [], [], by omega, rfl, rfl, rfl, rfl, S0⟩
                  case round =>
                    clear S0
                    obtain ⟨j, sv, xv, tv, ss, xs, ts, hj, rfl, hl1, hl2, hl3, hS⟩ := hrel
                    obtain ⟨wl, rfl⟩ : ∃ wl : World, wl = wr := ⟨_, rfl⟩
                    have HL1 := Lib.hid hl1; have HL2 := Lib.hid hl2; have HL3 := Lib.hid hl3
                    clear hl1 hl2 hl3
                    by_cases hjn : j < n
                    · have hj1 : (j : Int) < (n : Int) := by omega
                      obtain ⟨U1, hU1⟩ : ∃ U, gp g (bas g) (nth fs j) = U := ⟨_, rfl⟩
                      obtain ⟨U3, hU3⟩ : ∃ U, tellOf g (nth als j) (nth fs j) (QQ j) = U := ⟨_, rfl⟩
                      have HTK := Lib.hid (show ∀ w' : World, Calls Tryd.prog 47 #[.int .i64 g, .int .i64 (nth als j), .int .i64 (nth fs j), .int .i64 (QQ j)] w' fun e w'' => e = .returned (.tuple #[.agg #[.int .i64 U1, .int .i64 (QQ j), .int .i64 U3], .bool true]) ∧ Below w'.heap.size w' w'' from fun w' => by have := stalk_yes g (nth als j) (nth fs j) (QQ j) w' (HEA.out j hjn) (HEF.out j hjn) (HQX.out j); rw [hU1, hU3] at this; exact this)
                      clear hU1 hU3
                      go_upto_region 30 with (fail)
                      apply wp_region_H (Z := Option (Nat × Bool)) (S := fun k => k == 19 || k == 20) (C := fun z w' => Hid (Tr wl [.int .i64 0, .int .i64 0, .int .i64 0] [.int .i64 U1, .int .i64 (QQ j), .int .i64 U3] z w')) [0, 1, 2, 3, 4, 5, 6, 7, 8, 9, 10, 11, 12, 13, 14, 15, 16, 17, 18] none
                      · kernel_rfl
                      · kernel_rfl
                      · kernel_rfl
                      · exact ⟨rfl, rfl, rfl, rfl, rfl, rfl, rfl, rfl, rfl, rfl, rfl, rfl, rfl, rfl, rfl, rfl, rfl, rfl, rfl, trivial⟩
                      · rfl
                      · decide
                      · exact Lib.hid ⟨(Below.refl _ _).drew, fun _ _ e => by cases e⟩
                      · intro z
                        dsimp only [pickL, nthO]
                        repeat (first | go_big_quiet_skip | (go_big_quiet_want; go_big_quiet_op; first | go_big_quiet_on | (refine ⟨_, fun _ _ => rfl, ?_⟩; go_big_quiet_on)))
                        go_big_quiet_want
                        go_big_quiet_op
                        refine ⟨.int .i64 (nth als j), fun w' hw' => ?_, ?_⟩
                        · have q0 := (FB.out _ (grown_trans hS.out.gr (grown_below N hw'.out.bl))).2.1 j hjn
                          simp [go_sem, q0]
                        go_big_quiet_on
                        repeat (first | go_big_quiet_skip | (go_big_quiet_want; go_big_quiet_op; first | go_big_quiet_on | (refine ⟨_, fun _ _ => rfl, ?_⟩; go_big_quiet_on)))
                        go_big_quiet_want
                        go_big_quiet_op
                        refine ⟨.int .i64 (nth fs j), fun w' hw' => ?_, ?_⟩
                        · have q0 := (FB.out _ (grown_trans hS.out.gr (grown_below N hw'.out.bl))).2.2 j hjn
                          simp [go_sem, q0]
                        go_big_quiet_on
                        repeat (first | go_big_quiet_skip | (go_big_quiet_want; go_big_quiet_op; first | go_big_quiet_on | (refine ⟨_, fun _ _ => rfl, ?_⟩; go_big_quiet_on)))
                        go_big_quiet_want
                        go_big_quiet_op
                        go_big_quiet_call ((intro hw; exact (HAT.out j _ hjn (grown_trans hS.out.gr (grown_below N hw.out.bl))).mono fun _ _ ⟨he, hb⟩ => ⟨he, Lib.hid (hw.out.on hb)⟩))
                        repeat (first | go_big_quiet_skip | (go_big_quiet_want; go_big_quiet_op; first | go_big_quiet_on | (refine ⟨_, fun _ _ => rfl, ?_⟩; go_big_quiet_on)))
                        go_big_quiet_want
                        go_big_quiet_op
                        go_big_quiet_call ((intro hw; exact (HTK.out _).mono fun _ _ ⟨he, hb⟩ => ⟨he, Lib.hid (hw.out.on hb)⟩))
                        repeat (first | go_big_quiet_skip | (go_big_quiet_want; go_big_quiet_op; first | go_big_quiet_on | (refine ⟨_, fun _ _ => rfl, ?_⟩; go_big_quiet_on)))
                        exact wpQuiet_nil rfl
                      · skip
                        refine wpAnyH_special (i := 19) (d := some 23) rfl (by kernel_rfl) rfl rfl (by kernel_rfl) fun wa ha0 => ?_
                        refine ⟨.pointer (some ⟨wa.heap.size, 0, none⟩), wa.alloc (.cells #[.int .i64 0, .int .i64 0, .int .i64 0] 62), some (wa.heap.size, false), .inl ?_, Lib.hid ha0.out.made, ?_⟩
                        · kernel_rfl
                        refine wpAnyH_special (i := 20) (d := none) rfl (by kernel_rfl) rfl rfl (by kernel_rfl) fun we he => ?_
                        obtain ⟨hM0, hMB⟩ := he.out.m _ _ rfl
                        have r0 := hMB.cell 0; have r1 := hMB.cell 1; have r2 := hMB.cell 2; have f0 := hMB.frozen 0; have f1 := hMB.frozen 1; have f2 := hMB.frozen 2
                        simp at r0 r1 r2
                        refine ⟨undef, st3 we wa.heap.size (.int .i64 U1) (.int .i64 (QQ j)) (.int .i64 U3), some (wa.heap.size, true), .inr ⟨by simp [go_sem, Act.put, st3, r0, r1, r2, f0, f1, f2], rfl⟩, Lib.hid he.out.put, ?_⟩
                        clear he r0 r1 r2 f0 f1 f2 hMB hM0 ha0
                        refine takeH (i := 21) (d := some 24) (.bool true) rfl (by kernel_rfl) rfl rfl (by kernel_rfl) (by kernel_rfl) (by kernel_rfl) (fun w => by kernel_rfl) ?_
                        refine ⟨by kernel_rfl, fun wm hz => ?_⟩
                        obtain ⟨hM0, hMB⟩ := hz.out.m _ _ rfl
                        have hbl := hz.out.bl
                        obtain ⟨M, hMM⟩ : ∃ M, wa.heap.size = M := ⟨_, rfl⟩
                        simp only [Act.put, List.setIfInBounds_toArray, List.set_cons_zero, List.set_cons_succ]
                        rw [hMM] at hM0 hMB ⊢
                        clear hz hMM
                        have M5 := Lib.hid hMB
                        simp at M5
                        have R5 := Lib.hid (hS.out.on hbl)
                        have hNM : N < M := by have := hS.out.gr.size; have := HNK.out; omega
                        have LB := Lib.hid (show (∀ k, sv.ownBlock = some k → k < M) ∧ (∀ k, xv.ownBlock = some k → k < M) ∧ (∀ k, tv.ownBlock = some k → k < M) from ⟨fun k h => by have := (hS.out.s.lt k h).2; omega, fun k h => by have := (hS.out.x.lt k h).2; omega, fun k h => by have := (hS.out.t.lt k h).2; omega⟩)
                        clear hMB hbl hS
                        have a0 := R5.out.box.cell 0
                        have g0_ := R5.out.box.frozen 0
                        have m0 := M5.out.cell 0
                        simp at a0 m0
                        have ov := R5.out.s
                        have hbs := R5.out.gr.size
                        have hbx := R5.out.box.lt
                        have hnl := R5.out.nl
                        go_upto_region 32 with (at_builtin; refine wpAppInt rfl _ _ rfl rfl ov (by rw [HL1.out]; omega) (by omega) rfl ?_)
                        intro v6 w6 o6 g6 k6
                        obtain ⟨A6, C6, e6⟩ := Own.form o6
                        rw [List.length_append, HL1.out] at e6
                        simp only [List.length_cons, List.length_nil, Nat.zero_add] at e6
                        subst e6
                        have hb8 : (w6.heap[N]?) = (wm.heap[N]?) := g6.block _ hbx fun e => by have := (ov.lt _ e.symm).1; omega
                        have ax := (box_same R5.out.box hb8).cell 0
                        have fx := (box_same R5.out.box hb8).frozen 0
                        simp at ax
                        have R6 := Lib.hid (R5.out.say o6 g6 k6)
                        have M6 := Lib.hid (keep_talk (N := N) (j := 0) (v' := (.slice A6 (j + 1) C6)) M5.out g6 LB.out.1 hNM)
                        clear o6 g6 k6 ov a0 g0_ m0 hbs hbx hb8 hnl
                        go_upto_region 32 with (fail)
                        obtain ⟨y6, hy6⟩ : ∃ y, y = w6.setCell ⟨N, 0, none⟩ (.slice A6 (j + 1) C6) := ⟨_, rfl⟩
                        rw [← hy6] at R6 M6 ⊢
                        clear hy6 ax fx
                        have a0 := R6.out.box.cell 2
                        have g0_ := R6.out.box.frozen 2
                        have m0 := M6.out.cell 1
                        simp at a0 m0
                        have ov := R6.out.x
                        have hbs := R6.out.gr.size
                        have hbx := R6.out.box.lt
                        have hnl := R6.out.nl
                        go_upto_region 33 with (at_builtin; refine wpAppInt rfl _ _ rfl rfl ov (by rw [HL2.out]; omega) (by omega) rfl ?_)
                        intro v7 w7 o7 g7 k7
                        obtain ⟨A7, C7, e7⟩ := Own.form o7
                        rw [List.length_append, HL2.out] at e7
                        simp only [List.length_cons, List.length_nil, Nat.zero_add] at e7
                        subst e7
                        have hb8 : (w7.heap[N]?) = (y6.heap[N]?) := g7.block _ hbx fun e => by have := (ov.lt _ e.symm).1; omega
                        have ax := (box_same R6.out.box hb8).cell 2
                        have fx := (box_same R6.out.box hb8).frozen 2
                        simp at ax
                        have R7 := Lib.hid (R6.out.ask o7 g7 k7)
                        have M7 := Lib.hid (keep_talk (N := N) (j := 2) (v' := (.slice A7 (j + 1) C7)) M6.out g7 LB.out.2.1 hNM)
                        clear o7 g7 k7 ov a0 g0_ m0 hbs hbx hb8 hnl
                        go_upto_region 33 with (fail)
                        obtain ⟨y7, hy7⟩ : ∃ y, y = w7.setCell ⟨N, 2, none⟩ (.slice A7 (j + 1) C7) := ⟨_, rfl⟩
                        rw [← hy7] at R7 M7 ⊢
                        clear hy7 ax fx
                        have a0 := R7.out.box.cell 3
                        have g0_ := R7.out.box.frozen 3
                        have m0 := M7.out.cell 2
                        simp at a0 m0
                        have ov := R7.out.t
                        have hbs := R7.out.gr.size
                        have hbx := R7.out.box.lt
                        have hnl := R7.out.nl
                        go_wp2_with (at_builtin; refine wpAppInt rfl _ _ rfl rfl ov (by rw [HL3.out]; omega) (by omega) rfl ?_)
                        intro v8 w8 o8 g8 k8
                        obtain ⟨A8, C8, e8⟩ := Own.form o8
                        rw [List.length_append, HL3.out] at e8
                        simp only [List.length_cons, List.length_nil, Nat.zero_add] at e8
                        subst e8
                        have hb8 : (w8.heap[N]?) = (y7.heap[N]?) := g8.block _ hbx fun e => by have := (ov.lt _ e.symm).1; omega
                        have ax := (box_same R7.out.box hb8).cell 3
                        have fx := (box_same R7.out.box hb8).frozen 3
                        simp at ax
                        have R8 := Lib.hid (R7.out.tell o8 g8 k8)
                        have M8 := Lib.hid (keep_talk (N := N) (j := 3) (v' := (.slice A8 (j + 1) C8)) M7.out g8 LB.out.2.2 hNM)
                        clear o8 g8 k8 ov a0 g0_ m0 hbs hbx hb8 hnl
                        go_wp2
                        go_roundw
                        case rel => exact ⟨j + 1, _, _, _, ss ++ [U1], xs ++ [QQ j], ts ++ [U3], by omega, by go_num, by rw [List.length_append, HL1.out]; rfl, by rw [List.length_append, HL2.out]; rfl, by rw [List.length_append, HL3.out]; rfl, R8⟩
                        case measure => simp [intOf]; omega
                    · obtain rfl : n = j := by omega
                      have hj1 : ¬ (n : Int) < (n : Int) := by omega
                      obtain ⟨A1, C1, e1⟩ := Own.form hS.out.s
                      obtain ⟨A2, C2, e2⟩ := Own.form hS.out.x
                      obtain ⟨A3, C3, e3⟩ := Own.form hS.out.t
                      rw [HL1.out] at e1; rw [HL2.out] at e2; rw [HL3.out] at e3
                      subst e1 e2 e3
                      have q0_ := hS.out.box.cell 0; have q1 := hS.out.box.cell 1; have q2 := hS.out.box.cell 2; have q3 := hS.out.box.cell 3
                      simp at q0_ q1 q2 q3
                      have Q9 := Lib.hid (Q8.out.skip hS.out.gr HNW.out HNK.out HQN.out.1 HQN.out.2)
                      have TK := Lib.hid (show Tok wi.heap.size tl ⟨.slice A1 n C1, q0, .slice A2 n C2, .slice A3 n C3, ss, xs, ts⟩ wl from
                        ⟨own_mono hS.out.s (by have := HNW.out; have := HNK.out; omega), own_mono hS.out.x (by have := HNW.out; have := HNK.out; omega), own_mono hS.out.t (by have := HNW.out; have := HNK.out; omega), by show ss.length ≤ 5; rw [HL1.out]; omega, by show xs.length ≤ 5; rw [HL2.out]; omega, by show ts.length ≤ 5; rw [HL3.out]; omega,
                         fun b a e => by have := HQN.out.1 b a; have := (hS.out.s.lt b e).1; have := HNK.out; omega, fun b a e => by have := HQN.out.1 b a; have := (hS.out.x.lt b e).1; have := HNK.out; omega, fun b a e => by have := HQN.out.1 b a; have := (hS.out.t.lt b e).1; have := HNK.out; omega⟩)
                      have hown := Q9.out.ow
                      have hsz := Q9.out.gr.size
                      have hlL := HLL.out
                      clear hS Q8 FB HAT HQX HOP HOV
                      obtain ⟨i0, hi, hz9, hz1, hz2⟩ := info_parts infoSome
                      go_wp2_with (at_builtin; refine wpList_append_own_at _ rfl _ _ 93 rfl wi.heap.size 24 i0 (.agg #[.slice none 0 0, .int .i64 0, .slice none 0 0, .slice none 0 0]) 4 80 Tryd.underlying93 hi hz9 hz1 hz2 rfl (by decide) _ _ _ rfl (hown.alloc _) ⟨wl.heap.size, 0, none⟩ 1 1 [.slice A1 n C1, .int .i64 q0, .slice A2 n C2, .slice A3 n C3] rfl rfl ?k1 ?k2 ?k3 ?k4 ?k5 ?_)
                      case k2 => exact ⟨rfl, rfl, rfl, rfl⟩
                      case k3 => unfold maxLen; omega
                      case k4 => omega
                      case k5 => first | omega | (simp; omega)
                      intro v' w10 hown' hgrow _ hkb
                      have Q10 := Lib.hid (Q9.out.more TK.out (by rw [HLL.out]; exact hown') hgrow (by simpa using hkb))
                      clear hown' hgrow hkb hown Q9 TK hi hz9 hz1 hz2 q0_ q1 q2 q3
                      go_wp2
                      go_roundw
                      case rel => exact ⟨jj + 1, _, kk4, by omega, by go_num, by rw [List.length_append, HLL.out]; rfl, by omega, Q10⟩
                      case measure => simp [intOf]; omega
            · obtain ⟨tl, htl⟩ : ∃ v : Value, v = u16 := ⟨_, rfl⟩
              rw [← htl] at hQ ⊢
              clear htl
              have hL2 := HLL.out
              obtain rfl : jj = 2 := by omega
              obtain ⟨A, L1, rfl⟩ : ∃ a l, L = a :: l := by
                cases L with
                | nil => simp at hL2
                | cons a l => exact ⟨a, l, rfl⟩
              obtain ⟨B, L2, rfl⟩ : ∃ a l, L1 = a :: l := by
                cases L1 with
                | nil => simp at hL2
                | cons a l => exact ⟨a, l, rfl⟩
              obtain rfl : L2 = [] := by
                cases L2 with
                | nil => rfl
                | cons a l => simp at hL2
              clear hL2 HLL
              obtain ⟨G, GC, rfl⟩ := ownL_form hQ.out.ow (by simp)
              have TA := Lib.hid (hQ.out.al A (by simp))
              have TB := Lib.hid (hQ.out.al B (by simp))
              obtain ⟨Asv, Aq, Axv, Atv, Ass, Axs, Ats⟩ := A
              obtain ⟨Bsv, Bq, Bxv, Btv, Bss, Bxs, Bts⟩ := B
              obtain ⟨Asva, Asvc, e1⟩ := Own.form TA.out.fs
              dsimp only at e1
              subst e1
              obtain ⟨Axva, Axvc, e1⟩ := Own.form TA.out.fx
              dsimp only at e1
              subst e1
              obtain ⟨Atva, Atvc, e1⟩ := Own.form TA.out.ft
              dsimp only at e1
              subst e1
              obtain ⟨Bsva, Bsvc, e1⟩ := Own.form TB.out.fs
              dsimp only at e1
              subst e1
              obtain ⟨Bxva, Bxvc, e1⟩ := Own.form TB.out.fx
              dsimp only at e1
              subst e1
              obtain ⟨Btva, Btvc, e1⟩ := Own.form TB.out.ft
              dsimp only at e1
              subst e1
              have ZZ := Lib.hid (HKC.out wj (HAF.out wj hQ.out.gr).2.2)
              have HLO := Lib.hid (show w.heap.size + 2 ≤ wi.heap.size by have := HW2.out; have := HWI.out; omega)
              have HOW := Lib.hid hQ.out.ow
              clear hQ
              go_wp2_with fail
              apply wp_region_H (Z := Nat) (S := fun k => k == 12 || k == 13) (C := fun z w' => Hid (Rz w w.heap.size ⟨.slice Asva Ass.length Asvc, Aq, .slice Axva Axs.length Axvc, .slice Atva Ats.length Atvc, Ass, Axs, Ats⟩ ⟨.slice Bsva Bss.length Bsvc, Bq, .slice Bxva Bxs.length Bxvc, .slice Btva Bts.length Btvc, Bss, Bxs, Bts⟩ wj z w')) [0, 1, 2, 3, 4, 5, 6, 7, 8] 0
              · kernel_rfl
              · kernel_rfl
              · kernel_rfl
              · exact ⟨rfl, rfl, rfl, rfl, rfl, rfl, rfl, rfl, rfl, trivial⟩
              · rfl
              · decide
              · exact Lib.hid ⟨(Below.refl _ _).drew, fun _ _ _ => rfl, ZZ.out.2.2.1.1.on (Below.refl _ _).drew, ZZ.out.2.2.1.2.on (Below.refl _ _).drew⟩
              · intro z
                dsimp only [pickL, nthO]
                repeat (first | go_big_quiet_skip | (go_big_quiet_want; go_big_quiet_op; first | go_big_quiet_on | (refine ⟨_, fun _ _ => rfl, ?_⟩; go_big_quiet_on)))
                go_big_quiet_want
                go_big_quiet_op
                refine ⟨.agg #[.slice Asva Ass.length Asvc, .int .i64 Aq, .slice Axva Axs.length Axvc, .slice Atva Ats.length Atvc], fun w' hw' => ?_, ?_⟩
                · have ow := ownL_heap HOW.out (fun k e => hw'.out.hh k (by have := (HOW.out.lt k e).1; have := HLO.out; omega) (by have := (HOW.out.lt k e).1; have := HLO.out; omega))
                  have q0 := ow.cellAt 0 (by simp); have q1 := ow.cellAt 1 (by simp); have q2 := ow.cellAt 2 (by simp); have q3 := ow.cellAt 3 (by simp)
                  simp [Tv.cells] at q0 q1 q2 q3
                  simp [go_sem, q0, q1, q2, q3]
                go_big_quiet_on
                repeat (first | go_big_quiet_skip | (go_big_quiet_want; go_big_quiet_op; first | go_big_quiet_on | (refine ⟨_, fun _ _ => rfl, ?_⟩; go_big_quiet_on)))
                go_big_quiet_want
                go_big_quiet_op
                refine ⟨.agg #[.slice Bsva Bss.length Bsvc, .int .i64 Bq, .slice Bxva Bxs.length Bxvc, .slice Btva Bts.length Btvc], fun w' hw' => ?_, ?_⟩
                · have ow := ownL_heap HOW.out (fun k e => hw'.out.hh k (by have := (HOW.out.lt k e).1; have := HLO.out; omega) (by have := (HOW.out.lt k e).1; have := HLO.out; omega))
                  have q0 := ow.cellAt 4 (by simp); have q1 := ow.cellAt 5 (by simp); have q2 := ow.cellAt 6 (by simp); have q3 := ow.cellAt 7 (by simp)
                  simp [Tv.cells] at q0 q1 q2 q3
                  simp [go_sem, q0, q1, q2, q3]
                go_big_quiet_on
                repeat (first | go_big_quiet_skip | (go_big_quiet_want; go_big_quiet_op; first | go_big_quiet_on | (refine ⟨_, fun _ _ => rfl, ?_⟩; go_big_quiet_on)))
                exact wpQuiet_nil rfl
              · skip
                refine takeH (i := 9) (d := some 2) (.int .i64 g) rfl (by kernel_rfl) rfl rfl (by kernel_rfl) (by kernel_rfl) (by kernel_rfl) (fun w => by kernel_rfl) ?_
                refine takeH (i := 10) (d := some 3) (.slice (some ⟨KB, 0, none⟩) n KC) rfl (by kernel_rfl) rfl rfl (by kernel_rfl) (by kernel_rfl) (by kernel_rfl) (fun w => by kernel_rfl) ?_
                refine takeH (i := 11) (d := some 4) (.int .i64 need) rfl (by kernel_rfl) rfl rfl (by kernel_rfl) (by kernel_rfl) (by kernel_rfl) (fun w => by kernel_rfl) ?_
                refine wpAnyH_special (i := 12) (d := none) rfl (by kernel_rfl) rfl rfl (by kernel_rfl) fun we he => ?_
                have z0 := he.out.b5.cell 0; have z1 := he.out.b5.cell 1; have z2 := he.out.b5.cell 2; have z3 := he.out.b5.cell 3; have f0 := he.out.b5.frozen 0; have f1 := he.out.b5.frozen 1; have f2 := he.out.b5.frozen 2; have f3 := he.out.b5.frozen 3
                simp at z0 z1 z2 z3
                refine ⟨undef, ((((we.setCell ⟨w.heap.size, 0, none⟩ (.slice Asva Ass.length Asvc)).setCell ⟨w.heap.size, 1, none⟩ (.int .i64 Aq)).setCell ⟨w.heap.size, 2, none⟩ (.slice Axva Axs.length Axvc)).setCell ⟨w.heap.size, 3, none⟩ (.slice Atva Ats.length Atvc)), 1, .inr ⟨by simp [go_sem, Act.put, z0, z1, z2, z3, f0, f1, f2, f3], rfl⟩, Lib.hid he.out.put5, ?_⟩
                clear he z0 z1 z2 z3 f0 f1 f2 f3
                refine wpAnyH_special (i := 13) (d := none) rfl (by kernel_rfl) rfl rfl (by kernel_rfl) fun we he => ?_
                have z0 := he.out.b6.cell 0; have z1 := he.out.b6.cell 1; have z2 := he.out.b6.cell 2; have z3 := he.out.b6.cell 3; have f0 := he.out.b6.frozen 0; have f1 := he.out.b6.frozen 1; have f2 := he.out.b6.frozen 2; have f3 := he.out.b6.frozen 3
                simp at z0 z1 z2 z3
                refine ⟨undef, ((((we.setCell ⟨w.heap.size + 1, 0, none⟩ (.slice Bsva Bss.length Bsvc)).setCell ⟨w.heap.size + 1, 1, none⟩ (.int .i64 Bq)).setCell ⟨w.heap.size + 1, 2, none⟩ (.slice Bxva Bxs.length Bxvc)).setCell ⟨w.heap.size + 1, 3, none⟩ (.slice Btva Bts.length Btvc)), 2, .inr ⟨by simp [go_sem, Act.put, z0, z1, z2, z3, f0, f1, f2, f3], rfl⟩, Lib.hid he.out.put6, ?_⟩
                clear he z0 z1 z2 z3 f0 f1 f2 f3
                refine ⟨by kernel_rfl, fun wy hz => ?_⟩
                have z0 := hz.out.b5.cell 0; have z1 := hz.out.b5.cell 1; have z2 := hz.out.b5.cell 2; have z3 := hz.out.b5.cell 3
                have y0 := hz.out.b6.cell 0; have y1 := hz.out.b6.cell 1; have y2 := hz.out.b6.cell 2; have y3 := hz.out.b6.cell 3
                simp [Tv.cells] at z0 z1 z2 z3 y0 y1 y2 y3
                simp only [Act.put, List.setIfInBounds_toArray, List.set_cons_zero, List.set_cons_succ]
                have MV := Lib.hid (show ∀ (v : Value) (zs : List Int), Own wj wi.heap.size v zs → zs.length ≤ 5 → Ints wy v zs from fun v zs ho h5 => Ints.of_own (own_heap ho fun k e => hz.out.hh k (by have := (ho.lt k e).1; have := HLO.out; omega) (by have := (ho.lt k e).1; have := HLO.out; omega)) (by unfold maxLen; omega))
                have MK := Lib.hid (show Ints wy (.slice (some ⟨KB, 0, none⟩) n KC) keys from Ints.of_own (own_heap ZZ.out.2.2.2.2 fun k e => hz.out.hh k (by have := (ZZ.out.2.2.2.2.lt k e).1; omega) (by have := (ZZ.out.2.2.2.2.lt k e).1; omega)) (by rw [HN.out]; unfold maxLen; omega))
                have MB := Lib.hid (show Below w.heap.size w wy from ZZ.out.2.2.2.1.trans hz.out.bl)
                clear hz
                go_wp2
                refine bodyPost_ret (v := .tuple #[.int .i64 g, .slice (some ⟨KB, 0, none⟩) n KC, .int .i64 need, .agg #[.slice Asva Ass.length Asvc, .int .i64 Aq, .slice Axva Axs.length Axvc, .slice Atva Ats.length Atvc], .agg #[.slice Bsva Bss.length Bsvc, .int .i64 Bq, .slice Bxva Bxs.length Bxvc, .slice Btva Bts.length Btvc]]) ?_ rfl ?_
                · simp [results, Tryd.results31, go_sem, z0, z1, z2, z3, y0, y1, y2, y3]
                · exact ⟨g, _, keys, need, ⟨.slice Asva Ass.length Asvc, Aq, .slice Axva Axs.length Axvc, .slice Atva Ats.length Atvc, Ass, Axs, Ats⟩, ⟨.slice Bsva Bss.length Bsvc, Bq, .slice Bxva Bxs.length Bxvc, .slice Btva Bts.length Btvc, Bss, Bxs, Bts⟩, rfl, hd, by rw [HN.out]; exact hl, ⟨TA.out.l1, TA.out.l2, TA.out.l3⟩, ⟨TB.out.l1, TB.out.l2, TB.out.l3⟩, MK.out, ⟨MV.out _ _ TA.out.fs TA.out.l1, MV.out _ _ TA.out.fx TA.out.l2, MV.out _ _ TA.out.ft TA.out.l3⟩, ⟨MV.out _ _ TB.out.fs TB.out.l1, MV.out _ _ TB.out.fx TB.out.l2, MV.out _ _ TB.out.ft TB.out.l3⟩, MB.out⟩
end Go.Proofs.YtacalanlepjljaaDoor
