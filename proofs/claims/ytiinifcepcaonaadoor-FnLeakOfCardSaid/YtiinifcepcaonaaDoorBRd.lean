/- Rd, Box, Copy, in one text. -/
import Derived.Test.YtiinifcepcaonaaDoorBWalk
import Derived.Test.YtiinifcepcaonaaDoorBPure
import Derived.Maps.AppendAt
import Derived.Deep.OwnRows
import Derived.Laws.ResultCell
/- Lists of numbers and lists of lists, as slices in memory: read, owned, appended to. -/
namespace Go.Proofs.YtiinifcepcaonaaDoor
open Go.RowKit

/-- The cells of a list of numbers at the head of a slice. -/
structure IntsA (w : World) (a : Option Addr) (xs : List Int) : Prop where
  max : xs.length ≤ maxLen
  get : ∀ j, j < xs.length → ∃ g, a = some ⟨g, 0, none⟩ ∧ g < w.heap.size ∧ w.cell? ⟨g, j, none⟩ = some (.int .i64 (nth xs j))
theorem Ints.opened {w : World} {v : Value} {xs : List Int} (h : Ints w v xs) : ∃ a c, v = .slice a xs.length c ∧ IntsA w a xs := by
  rcases h with ⟨rfl, rfl⟩ | ⟨g, cap, rfl, hl, hg, hc⟩
  · exact ⟨none, 0, rfl, ⟨by simp, fun j hj => by simp at hj⟩⟩
  · exact ⟨_, _, rfl, hl, fun j hj => ⟨g, rfl, hg, hc j hj⟩⟩
theorem IntsA.on {w w' : World} {a : Option Addr} {xs : List Int} (h : IntsA w a xs) (hb : Below w.heap.size w w') : IntsA w' a xs :=
  ⟨h.max, fun j hj => by
    obtain ⟨g, e, hg, hc⟩ := h.get j hj
    exact ⟨g, e, Nat.lt_of_lt_of_le hg hb.size, (hb.cell (p := ⟨g, j, none⟩) hg).trans hc⟩⟩

/-- The slice v holds the lists xss. -/
def IntSS (w : World) (v : Value) (xss : List (List Int)) : Prop :=
  ∃ a c, v = .slice a xss.length c ∧ xss.length ≤ maxLen ∧ ∀ j, j < xss.length → ∃ g u, a = some ⟨g, 0, none⟩ ∧ g < w.heap.size ∧ w.cell? ⟨g, j, none⟩ = some u ∧ Ints w u (row xss j)
structure IntSSA (w : World) (a : Option Addr) (xss : List (List Int)) : Prop where
  max : xss.length ≤ maxLen
  get : ∀ j, j < xss.length → ∃ g u, a = some ⟨g, 0, none⟩ ∧ g < w.heap.size ∧ w.cell? ⟨g, j, none⟩ = some u ∧ Ints w u (row xss j)
theorem IntSS.opened {w : World} {v : Value} {xss : List (List Int)} (h : IntSS w v xss) : ∃ a c, v = .slice a xss.length c ∧ IntSSA w a xss := by
  obtain ⟨a, c, e, h1, h2⟩ := h
  exact ⟨a, c, e, h1, h2⟩
theorem IntSSA.on {w w' : World} {a : Option Addr} {xss : List (List Int)} (h : IntSSA w a xss) (hb : Below w.heap.size w w') : IntSSA w' a xss :=
  ⟨h.max, fun j hj => by
    obtain ⟨g, u, e, hg, hc, hi⟩ := h.get j hj
    exact ⟨g, u, e, Nat.lt_of_lt_of_le hg hb.size, (hb.cell (p := ⟨g, j, none⟩) hg).trans hc, hi.below hb⟩⟩
theorem IntSS.on {w w' : World} {v : Value} {xss : List (List Int)} (h : IntSS w v xss) (hb : Below w.heap.size w w') : IntSS w' v xss := by
  obtain ⟨a, c, e, h1⟩ := h.opened
  have h2 := h1.on hb
  exact ⟨a, c, e, h2.max, h2.get⟩

/-- The value at place j. -/
def val (us : List Value) (j : Nat) : Value := us.getD j (.slice none 0 0)
theorem val_get {us : List Value} {j : Nat} (h : j < us.length) : val us j = us[j] := by
  unfold val; rw [List.getD_eq_getElem?_getD, List.getElem?_eq_getElem h]; rfl
theorem val_app {us : List Value} {u : Value} {j : Nat} (h : j < us.length) : val (us ++ [u]) j = val us j := by
  rw [val_get h, val_get (by simp; omega), List.getElem_append_left h]
theorem val_last {us : List Value} {u : Value} : val (us ++ [u]) us.length = u := by
  rw [val_get (by simp)]; simp
theorem row_app {xss : List (List Int)} {ys : List Int} {j : Nat} (h : j < xss.length) : row (xss ++ [ys]) j = row xss j := by
  rw [row_get h, row_get (by simp; omega), List.getElem_append_left h]
theorem row_last {xss : List (List Int)} {ys : List Int} : row (xss ++ [ys]) xss.length = ys := by
  rw [row_get (by simp)]; simp
theorem row_set {xss : List (List Int)} {ys : List Int} {k : Nat} (h : k < xss.length) : row (xss.set k ys) k = ys := by
  rw [row_get (by simpa using h)]; simp
theorem row_set_ne {xss : List (List Int)} {ys : List Int} {k j : Nat} (h : k ≠ j) : row (xss.set k ys) j = row xss j := by
  unfold row; rw [List.getD_eq_getElem?_getD, List.getD_eq_getElem?_getD, List.getElem?_set_ne h]

theorem own_heap {w w' : World} {B : Nat} {v : Value} {xs : List Int} (h : Own w B v xs) (hh : ∀ k, v.ownBlock = some k → w'.heap[k]? = w.heap[k]?) : Own w' B v xs := by
  refine ⟨h.1, ?_⟩
  rcases h.2 with h2 | ⟨g, cap, cur, rfl, hg, hb, r⟩
  · exact .inl h2
  · exact .inr ⟨g, cap, cur, rfl, hg, by rw [hh g rfl]; exact hb, r⟩
theorem outer_heap {w w' : World} {B n : Nat} {v : Value} {us : List Value} (h : w.ownsRow B 33 1 v n us) (hh : ∀ k, v.ownBlock = some k → w'.heap[k]? = w.heap[k]?) : w'.ownsRow B 33 1 v n us := by
  refine ⟨h.1, ?_⟩
  rcases h.2 with h2 | ⟨g, cap, cur, rfl, hg, hb, r⟩
  · exact .inl h2
  · exact .inr ⟨g, cap, cur, rfl, hg, by rw [hh g rfl]; exact hb, r⟩

/-- A list of lists, all in blocks of its own, no two in one, from block lo on and below hi. -/
structure OwnSS (w : World) (lo hi : Nat) (v : Value) (us : List Value) (xss : List (List Int)) : Prop where
  outer : w.ownsRow lo 33 1 v us.length us
  len : us.length = xss.length
  hi0 : ∀ k, v.ownBlock = some k → k < hi
  rows : ∀ j, j < us.length → Own w lo (val us j) (row xss j)
  his : ∀ j, j < us.length → ∀ k, (val us j).ownBlock = some k → k < hi
  apart : ∀ i j, i < j → j < us.length → ∀ k, (val us i).ownBlock = some k → (val us j).ownBlock = some k → False
  apart0 : ∀ j, j < us.length → ∀ k, (val us j).ownBlock = some k → v.ownBlock = some k → False
theorem OwnSS.nil (w : World) (lo hi : Nat) : OwnSS w lo hi (.slice none 0 0) [] [] :=
  ⟨World.ownsRow_nil _ _ _ _, rfl, fun k hk => by simp [Value.ownBlock] at hk, fun j hj => by simp at hj, fun j hj => by simp at hj, fun i j _ hj => by simp at hj, fun j hj => by simp at hj⟩
theorem OwnSS.heap {w w' : World} {lo hi : Nat} {v : Value} {us : List Value} {xss : List (List Int)} (h : OwnSS w lo hi v us xss) (hh : ∀ k, lo ≤ k → k < hi → w'.heap[k]? = w.heap[k]?) : OwnSS w' lo hi v us xss :=
  ⟨outer_heap h.outer fun k hk => hh k (h.outer.lt k hk).1 (h.hi0 k hk), h.len, h.hi0, fun j hj => own_heap (h.rows j hj) fun k hk => hh k ((h.rows j hj).lt k hk).1 (h.his j hj k hk), h.his, h.apart, h.apart0⟩
theorem OwnSS.on {w w' : World} {lo hi : Nat} {v : Value} {us : List Value} {xss : List (List Int)} (h : OwnSS w lo hi v us xss) (hb : Below w.heap.size w w') : OwnSS w' lo hi v us xss :=
  ⟨outer_heap h.outer fun k hk => hb.block k (h.outer.lt k hk).2, h.len, h.hi0, fun j hj => own_heap (h.rows j hj) fun k hk => hb.block k ((h.rows j hj).lt k hk).2, h.his, h.apart, h.apart0⟩
theorem OwnSS.wider {w : World} {lo hi hi' : Nat} {v : Value} {us : List Value} {xss : List (List Int)} (h : OwnSS w lo hi v us xss) (hl : hi ≤ hi') : OwnSS w lo hi' v us xss :=
  ⟨h.outer, h.len, fun k hk => Nat.lt_of_lt_of_le (h.hi0 k hk) hl, h.rows, fun j hj k hk => Nat.lt_of_lt_of_le (h.his j hj k hk) hl, h.apart, h.apart0⟩
theorem outer_lower {w : World} {B B' n : Nat} {v : Value} {us : List Value} (h : w.ownsRow B 33 1 v n us) (hB : B' ≤ B) : w.ownsRow B' 33 1 v n us := by
  obtain ⟨h1, h2⟩ := h
  refine ⟨h1, ?_⟩
  rcases h2 with h2 | ⟨g, cap, cur, hv, hg, r⟩
  · exact .inl h2
  · exact .inr ⟨g, cap, cur, hv, by omega, r⟩
theorem OwnSS.lower {w : World} {lo lo' hi : Nat} {v : Value} {us : List Value} {xss : List (List Int)} (h : OwnSS w lo hi v us xss) (hl : lo' ≤ lo) : OwnSS w lo' hi v us xss :=
  ⟨outer_lower h.outer hl, h.len, h.hi0, fun j hj => own_mono (h.rows j hj) hl, h.his, h.apart, h.apart0⟩
theorem outer_cell {w : World} {B n : Nat} {v : Value} {us : List Value} (h : w.ownsRow B 33 1 v n us) : ∃ a c, v = .slice a n c ∧ ∀ j, j < us.length → ∃ g, a = some ⟨g, 0, none⟩ ∧ g < w.heap.size ∧ w.cell? ⟨g, j, none⟩ = some (val us j) := by
  have hlt := h.lt
  have h1 := h.1
  rcases id h.2 with ⟨rfl, hn⟩ | ⟨g, cap, cur, rfl, _⟩
  · exact ⟨none, 0, by rw [hn], fun j hj => by omega⟩
  · refine ⟨_, _, rfl, fun j hj => ⟨g, rfl, (hlt g rfl).2, ?_⟩⟩
    rw [h.cellAt j (by omega), List.getElem?_eq_getElem hj, val_get hj]
theorem OwnSS.ints {w : World} {lo hi : Nat} {v : Value} {us : List Value} {xss : List (List Int)} (h : OwnSS w lo hi v us xss) (hm : xss.length ≤ maxLen) (hr : ∀ j, j < xss.length → (row xss j).length ≤ maxLen) : IntSS w v xss := by
  obtain ⟨a, c, e, h1⟩ := outer_cell h.outer
  refine ⟨a, c, by rw [e, h.len], hm, fun j hj => ?_⟩
  rw [← h.len] at hj
  obtain ⟨g, e1, e2, e3⟩ := h1 j hj
  exact ⟨g, _, e1, e2, e3, Ints.of_own (h.rows j hj) (hr j (by rw [← h.len]; exact hj))⟩

theorem infoRow : (Tryd.prog.info? 33).map (fun i => (i.zero, i.size, i.bytes)) = some (some (.slice none 0 0), 1, 24) := by kernel_rfl

/-- append of one number to an owned list. -/
theorem wpAppInt {ops : Array Oper} {rest : List Oper} {o : Oper} {a : Act} {Q : Exit → Act → World → Prop} {w3 : World} {B : Nat} {v : Value} {xs : List Int} {y : Int} {T : TypeId} (hgd : o.guard = none) (s x : Operand)
    (ho : o.op = .call { callee := .builtin .append, args := #[s, x], argTypes := #[33, 33] }) (hs : a.eval s = v) (hown : Own w3 B v xs) (hl : xs.length < 1000000000) (hB : B ≤ w3.heap.size) (hx : a.eval x = .slice (some ⟨w3.heap.size, 0, none⟩) 1 1)
    (h : ∀ v' w4, Own w4 B v' (xs ++ [y]) → w3.grownBy w4 v.ownBlock → (v'.ownBlock = v.ownBlock ∨ ∃ k, v'.ownBlock = some k ∧ w3.heap.size ≤ k) → wpList Tryd.prog ops Q rest (a.put o.dst v') w4) :
    wpList Tryd.prog ops Q (o :: rest) a (w3.alloc (.cells #[.int .i64 y] T)) := by
  obtain ⟨i0, hi, hz0, hz1, hz2⟩ := info_parts infoInt
  refine wpList_append_own_at (w3.alloc (.cells #[.int .i64 y] T)) hgd s x 33 ho B 3 i0 (.int .i64 0) 1 8 Tryd.underlying33 hi hz0 hz1 hz2 rfl (by decide) v xs.length _ hs (hown.alloc _) ⟨w3.heap.size, 0, none⟩ 1 1 [.int .i64 y] hx rfl (cell_one_new _ _ _) ?_ ?_ ?_ ?_ ?_
  · intro u hu; simp at hu; subst hu; rfl
  · unfold maxLen; omega
  · omega
  · simp; omega
  · intro v' w4 h1 h2 _ h4
    refine h v' w4 ?_ ?_ ?_
    · unfold Own; simpa using h1
    · exact ⟨h2.os, h2.tape, h2.output, Nat.le_trans (by simp) h2.size, fun k hk hne => (h2.block k (by simp; omega) hne).trans (Below.heap_alloc w3 _ k hk)⟩
    · rcases h4 with h4 | h4
      · exact .inl h4
      · exact .inr ⟨_, h4, by simp⟩

/-- A row more. -/
theorem OwnSS.app {w3 w4 : World} {lo hi hi' : Nat} {v v' u : Value} {us : List Value} {xss : List (List Int)} {ys : List Int} (h : OwnSS w3 lo hi v us xss) (hh : hi ≤ hi') (h3 : w3.heap.size ≤ w4.heap.size) (h4 : w4.heap.size ≤ hi')
    (hu : Own w3 lo u ys) (hd : ∀ j, j < us.length → ∀ k, (val us j).ownBlock = some k → u.ownBlock = some k → False) (h0 : ∀ k, u.ownBlock = some k → v.ownBlock = some k → False)
    (ho : w4.ownsRow lo 33 1 v' (us ++ [u]).length (us ++ [u])) (hg : w3.grownBy w4 v.ownBlock) (hk : v'.ownBlock = v.ownBlock ∨ ∃ k, v'.ownBlock = some k ∧ w3.heap.size ≤ k) : OwnSS w4 lo hi' v' (us ++ [u]) (xss ++ [ys]) := by
  have keep : ∀ {x : Value} {zs : List Int}, Own w3 lo x zs → (∀ k, x.ownBlock = some k → v.ownBlock = some k → False) → Own w4 lo x zs := fun {x zs} hx hn =>
    hx.kept hg (by
      cases hv : x.ownBlock with
      | none => exact .inl rfl
      | some k => exact .inr fun e => hn k hv e.symm)
  have new0 : ∀ {x : Value} {zs : List Int}, Own w3 lo x zs → (∀ k, x.ownBlock = some k → v.ownBlock = some k → False) → ∀ k, x.ownBlock = some k → v'.ownBlock = some k → False := fun {x zs} hx hn k h1 h2 => by
    rcases hk with hk | ⟨m, hm, hl⟩
    · exact hn k h1 (by rw [← hk]; exact h2)
    · have := (hx.lt k h1).2
      rw [hm] at h2; cases h2; omega
  have hl : ∀ j, j < (us ++ [u]).length → j < us.length ∨ j = us.length := fun j hj => by simp at hj; omega
  refine ⟨ho, by simp [h.len], fun k hk' => Nat.lt_of_lt_of_le (ho.lt k hk').2 h4, fun j hj => ?_, fun j hj k hk' => ?_, fun i j hij hj k h1 h2 => ?_, fun j hj k h1 h2 => ?_⟩
  · rcases hl j hj with e | e
    · rw [val_app e, row_app (by rw [← h.len]; exact e)]; exact keep (h.rows j e) (h.apart0 j e)
    · rw [e, val_last, h.len, row_last]; exact keep hu h0
  · rcases hl j hj with e | e
    · rw [val_app e] at hk'; exact Nat.lt_of_lt_of_le (h.his j e k hk') hh
    · rw [e, val_last] at hk'
      exact Nat.lt_of_lt_of_le (hu.lt k hk').2 (Nat.le_trans h3 h4)
  · have ei : i < us.length := by rcases hl j hj with e | e <;> omega
    rw [val_app ei] at h1
    rcases hl j hj with e | e
    · rw [val_app e] at h2; exact h.apart i j hij e k h1 h2
    · rw [e, val_last] at h2; exact hd i ei k h1 h2
  · rcases hl j hj with e | e
    · rw [val_app e] at h1; exact new0 (h.rows j e) (h.apart0 j e) k h1 h2
    · rw [e, val_last] at h1; exact new0 hu h0 k h1 h2

/-- A row written anew in place. -/
theorem OwnSS.set {w w' : World} {lo hi j : Nat} {v : Value} {us : List Value} {xss : List (List Int)} {ys : List Int} (h : OwnSS w lo hi v us xss) (hj : j < us.length) (hu : Own w' lo (val us j) ys) (hg : w.grownBy w' (val us j).ownBlock) : OwnSS w' lo hi v us (xss.set j ys) := by
  have keep : ∀ {x : Value} {zs : List Int}, Own w lo x zs → (∀ k, x.ownBlock = some k → (val us j).ownBlock = some k → False) → Own w' lo x zs := fun {x zs} hx hn =>
    hx.kept hg (by
      cases hv : x.ownBlock with
      | none => exact .inl rfl
      | some k => exact .inr fun e => hn k hv e.symm)
  refine ⟨h.outer.kept hg (by
      cases hv : v.ownBlock with
      | none => exact .inl rfl
      | some k => exact .inr fun e => h.apart0 j hj k e.symm hv), by rw [List.length_set]; exact h.len, h.hi0, fun i hi => ?_, h.his, h.apart, h.apart0⟩
  by_cases e : j = i
  · subst e; rw [row_set (by rw [← h.len]; exact hj)]; exact hu
  · rw [row_set_ne e]
    refine keep (h.rows i hi) fun k h1 h2 => ?_
    rcases Nat.lt_or_ge i j with hl | hl
    · exact h.apart i j hl hj k h1 h2
    · exact h.apart j i (by omega) hi k h2 h1

/-- Nothing changed but blocks from lo on and below hi, and new ones. -/
structure Outside (lo hi : Nat) (w w' : World) : Prop where
  os : w'.os = w.os
  tape : w'.tape = w.tape
  output : w'.output = w.output
  size : w.heap.size ≤ w'.heap.size
  block : ∀ k, k < w.heap.size → (k < lo ∨ hi ≤ k) → w'.heap[k]? = w.heap[k]?
theorem Outside.refl (lo hi : Nat) (w : World) : Outside lo hi w w := ⟨rfl, rfl, rfl, Nat.le_refl _, fun _ _ _ => rfl⟩
theorem Outside.trans {lo hi : Nat} {a b c : World} (h : Outside lo hi a b) (k : Outside lo hi b c) : Outside lo hi a c :=
  ⟨k.os.trans h.os, k.tape.trans h.tape, k.output.trans h.output, Nat.le_trans h.size k.size, fun i hi' hr => (k.block i (Nat.lt_of_lt_of_le hi' h.size) hr).trans (h.block i hi' hr)⟩
theorem Outside.of_grown {lo hi : Nat} {w w' : World} {r : Option Nat} (h : w.grownBy w' r) (hr : ∀ k, r = some k → lo ≤ k ∧ k < hi) : Outside lo hi w w' :=
  ⟨h.os, h.tape, h.output, h.size, fun k hk hne => h.block k hk fun e => by have := hr k e.symm; omega⟩
theorem Outside.below {lo hi : Nat} {w w' : World} (h : Outside lo hi w w') (hl : lo ≤ w.heap.size) : Below lo w w' :=
  ⟨h.os, h.tape, h.output, h.size, fun k hk => h.block k (Nat.lt_of_lt_of_le hk hl) (.inl hk)⟩
theorem Outside.own {lo hi : Nat} {w w' : World} {B : Nat} {v : Value} {xs : List Int} (h : Outside lo hi w w') (ho : Own w B v xs) (hB : hi ≤ B) : Own w' B v xs :=
  own_heap ho fun k hk => h.block k (ho.lt k hk).2 (.inr (Nat.le_trans hB (ho.lt k hk).1))
theorem Outside.low {lo hi : Nat} {w w' : World} {B : Nat} {v : Value} {xs : List Int} (h : Outside lo hi w w') (ho : Own w B v xs) (hB : ∀ k, v.ownBlock = some k → k < lo) : Own w' B v xs :=
  own_heap ho fun k hk => h.block k (ho.lt k hk).2 (.inl (hB k hk))
theorem Outside.ownSS {lo hi : Nat} {w w' : World} {B hi' : Nat} {v : Value} {us : List Value} {xss : List (List Int)} (h : Outside lo hi w w') (ho : OwnSS w B hi' v us xss) (hB : hi ≤ B) : OwnSS w' B hi' v us xss :=
  ⟨outer_heap ho.outer fun k hk => h.block k (ho.outer.lt k hk).2 (.inr (Nat.le_trans hB (ho.outer.lt k hk).1)), ho.len, ho.hi0, fun j hj => h.own (ho.rows j hj) hB, ho.his, ho.apart, ho.apart0⟩

/-- A row put in the place of one that holds nothing. -/
theorem OwnSS.put {w : World} {lo g cap j : Nat} {u : Value} {us : List Value} {xss : List (List Int)} {ys : List Int} (h : OwnSS w lo w.heap.size (.slice (some ⟨g, 0, none⟩) us.length cap) us xss) (hj : j < us.length)
    (hu : Own w lo u ys) (hd : ∀ i, i < us.length → ∀ k, (val us i).ownBlock = some k → u.ownBlock = some k → False) (h0 : ∀ k, u.ownBlock = some k → k = g → False) :
    OwnSS (w.setCell ⟨g, j, none⟩ u) lo (w.setCell ⟨g, j, none⟩ u).heap.size (.slice (some ⟨g, 0, none⟩) us.length cap) (us.set j u) (xss.set j ys) ∧ w.grownBy (w.setCell ⟨g, j, none⟩ u) (some g) := by
  have hst := h.outer.stored j u
  have hsz : (w.setCell ⟨g, j, none⟩ u).heap.size = w.heap.size := by simp [World.setCell]
  have keep : ∀ {x : Value} {zs : List Int}, Own w lo x zs → (∀ k, x.ownBlock = some k → k = g → False) → Own (w.setCell ⟨g, j, none⟩ u) lo x zs := fun {x zs} hx hn =>
    hx.kept hst.2 (by
      cases hv : x.ownBlock with
      | none => exact .inl rfl
      | some k => exact .inr fun e => hn k hv (by cases e; rfl))
  have hval : ∀ i, i < us.length → val (us.set j u) i = if j = i then u else val us i := fun i hi => by
    rw [val_get (by simpa using hi), List.getElem_set]
    by_cases e : j = i
    · rw [if_pos e, if_pos e]
    · rw [if_neg e, if_neg e, val_get hi]
  have a0 : ∀ i, i < us.length → ∀ k, (val us i).ownBlock = some k → k = g → False := fun i hi k h1 h2 => h.apart0 i hi k h1 (by rw [h2]; rfl)
  refine ⟨⟨by rw [List.length_set]; exact hst.1, by rw [List.length_set, List.length_set]; exact h.len, fun k hk => by rw [hsz]; exact h.hi0 k hk, fun i hi => ?_, fun i hi k hk => ?_, fun i i' hii hi k h1 h2 => ?_, fun i hi k h1 h2 => ?_⟩, hst.2⟩
  · rw [List.length_set] at hi
    rw [hval i hi]
    by_cases e : j = i
    · subst e; rw [if_pos rfl, row_set (by rw [← h.len]; exact hj)]; exact keep hu h0
    · rw [if_neg e, row_set_ne e]; exact keep (h.rows i hi) (a0 i hi)
  · rw [List.length_set] at hi
    rw [hval i hi] at hk
    rw [hsz]
    by_cases e : j = i
    · rw [if_pos e] at hk; exact (hu.lt k hk).2
    · rw [if_neg e] at hk; exact h.his i hi k hk
  · rw [List.length_set] at hi
    rw [hval i' hi] at h2
    rw [hval i (by omega)] at h1
    by_cases e : j = i
    · rw [if_pos e] at h1
      rw [if_neg (by omega)] at h2
      exact hd i' hi k h2 h1
    · rw [if_neg e] at h1
      by_cases e' : j = i'
      · rw [if_pos e'] at h2; exact hd i (by omega) k h1 h2
      · rw [if_neg e'] at h2; exact h.apart i i' hii hi k h1 h2
  · rw [List.length_set] at hi
    rw [hval i hi] at h1
    have h3 : k = g := by cases h2; rfl
    by_cases e : j = i
    · rw [if_pos e] at h1; exact h0 k h1 h3
    · rw [if_neg e] at h1; exact a0 i hi k h1 h3
end Go.Proofs.YtiinifcepcaonaaDoor

/- Boxes: blocks that hold a struct; lists that came in; laws.toIntS, toIntSS, toClaim, toWords. -/
namespace Go.Proofs.YtiinifcepcaonaaDoor
open Go.RowKit

theorem below_of_drew {w w' : World} {m : Nat} (h : w' = w.drewN m) : Below w.heap.size w w' := by rw [h]; exact below_drewN (Below.refl _ _) m
/-- Block N holds the cells cs. -/
def Box (w : World) (N : Nat) (cs : List Value) : Prop := ∃ T, w.heap[N]? = some (.cells cs.toArray T (0, 0))
theorem Box.lt {w : World} {N : Nat} {cs : List Value} (h : Box w N cs) : N < w.heap.size := by
  obtain ⟨T, h⟩ := h; exact (Array.getElem?_eq_some_iff.1 h).1
theorem Box.cell {w : World} {N : Nat} {cs : List Value} (h : Box w N cs) (j : Nat) : w.cell? ⟨N, j, none⟩ = cs[j]? := by
  obtain ⟨T, h⟩ := h; simp [World.cell?, h]
theorem Box.frozen {w : World} {N : Nat} {cs : List Value} (h : Box w N cs) (j : Nat) : w.frozen? ⟨N, j, none⟩ = false := by
  obtain ⟨T, h⟩ := h; simp [World.frozen?, h]
theorem Box.on {w w' : World} {N : Nat} {cs : List Value} (h : Box w N cs) (hb : Below w.heap.size w w') : Box w' N cs := by
  have hl := h.lt
  obtain ⟨T, h⟩ := h
  exact ⟨T, by rw [hb.block N hl]; exact h⟩
theorem Box.low {w w' : World} {N B : Nat} {cs : List Value} (h : Box w N cs) (hb : Below B w w') (hN : N < B) : Box w' N cs := by
  obtain ⟨T, h⟩ := h
  exact ⟨T, by rw [hb.block N hN]; exact h⟩
theorem Box.made (w : World) (cs : List Value) (T : TypeId) : Box (w.alloc (.cells cs.toArray T)) w.heap.size cs := ⟨T, by show (w.heap.push _)[w.heap.size]? = _; simp⟩
theorem Box.alloc {w : World} {N : Nat} {cs : List Value} (h : Box w N cs) (o : Obj) : Box (w.alloc o) N cs := by
  have hl := h.lt
  obtain ⟨T, h⟩ := h
  exact ⟨T, by rw [Below.heap_alloc w o N hl]; exact h⟩
theorem Box.set {w : World} {N : Nat} {cs : List Value} (h : Box w N cs) (j : Nat) (v : Value) : Box (w.setCell ⟨N, j, none⟩ v) N (cs.set j v) := by
  obtain ⟨T, h⟩ := h
  exact ⟨T, by simp [World.setCell, Array.getElem?_modify, h]⟩
theorem Box.far {w : World} {N M j : Nat} {cs : List Value} (h : Box w N cs) (hne : N ≠ M) (v : Value) : Box (w.setCell ⟨M, j, none⟩ v) N cs := by
  obtain ⟨T, h⟩ := h
  exact ⟨T, by rw [Below.heap_setCell _ _ _ _ hne]; exact h⟩
theorem below_grow (w : World) (o : Obj) : Below w.heap.size w (w.alloc o) := (Below.refl _ _).alloc (Nat.le_refl _) _
theorem Box.drewN {w : World} {N m : Nat} {cs : List Value} (h : Box w N cs) : Box (w.drewN m) N cs := h

theorem boxes1 {w w1 : World} {P : List Value} {T1 : TypeId} (hb : Below (w.alloc (.cells P.toArray T1)).heap.size (w.alloc (.cells P.toArray T1)) w1) : Box w1 w.heap.size P ∧ Below w.heap.size w w1 :=
  ⟨(Box.made w P T1).on hb, (below_grow w _).trans (hb.mono (by simp))⟩
theorem boxes2 {w w1 : World} {P R : List Value} {T1 T2 : TypeId} (hb : Below ((w.alloc (.cells P.toArray T1)).alloc (.cells R.toArray T2)).heap.size ((w.alloc (.cells P.toArray T1)).alloc (.cells R.toArray T2)) w1) :
    Box w1 w.heap.size P ∧ Box w1 (w.heap.size + 1) R ∧ Below w.heap.size w w1 := by
  have h1 := Box.made w P T1
  have h2 := Box.made (w.alloc (.cells P.toArray T1)) R T2
  rw [show (w.alloc (.cells P.toArray T1)).heap.size = w.heap.size + 1 by simp] at h2
  exact ⟨(h1.alloc _).on hb, h2.on hb, ((below_grow w _).trans ((below_grow _ _).mono (by simp))).trans (hb.mono (by simp; omega))⟩
theorem boxes3 {w w1 : World} {P R O : List Value} {T1 T2 T3 : TypeId} (hb : Below (((w.alloc (.cells P.toArray T1)).alloc (.cells R.toArray T2)).alloc (.cells O.toArray T3)).heap.size (((w.alloc (.cells P.toArray T1)).alloc (.cells R.toArray T2)).alloc (.cells O.toArray T3)) w1) :
    Box w1 w.heap.size P ∧ Box w1 (w.heap.size + 1) R ∧ Box w1 (w.heap.size + 1 + 1) O ∧ Below w.heap.size w w1 := by
  have h1 := Box.made w P T1
  have h2 := Box.made (w.alloc (.cells P.toArray T1)) R T2
  have h3 := Box.made ((w.alloc (.cells P.toArray T1)).alloc (.cells R.toArray T2)) O T3
  rw [show (w.alloc (.cells P.toArray T1)).heap.size = w.heap.size + 1 by simp] at h2
  rw [show ((w.alloc (.cells P.toArray T1)).alloc (.cells R.toArray T2)).heap.size = w.heap.size + 1 + 1 by simp] at h3
  exact ⟨((h1.alloc _).alloc _).on hb, (h2.alloc _).on hb, h3.on hb, (((below_grow w _).trans ((below_grow _ _).mono (by simp))).trans ((below_grow _ _).mono (by simp; omega))).trans (hb.mono (by simp; omega))⟩

/-- A world behind the one in which a box was made at the head of a function; the box is as it was. -/
def InB (w : World) (P : List Value) (T : TypeId) (w1 : World) : Prop := Below (w.heap.size + 1) (w.alloc (.cells P.toArray T)) w1
theorem InB.start (w : World) (P : List Value) (T : TypeId) : InB w P T (w.alloc (.cells P.toArray T)) := Below.refl _ _
theorem InB.of {w w1 : World} {P : List Value} {T : TypeId} (hb : Below (w.alloc (.cells P.toArray T)).heap.size (w.alloc (.cells P.toArray T)) w1) : InB w P T w1 := hb.mono (by simp)
theorem InB.size {w w1 : World} {P : List Value} {T : TypeId} (h : InB w P T w1) : w.heap.size + 1 ≤ w1.heap.size := by have := Below.size h; simpa using this
theorem InB.on {w w1 w2 : World} {P : List Value} {T : TypeId} (h : InB w P T w1) (hb : Below w1.heap.size w1 w2) : InB w P T w2 := Below.trans h (hb.mono h.size)
theorem InB.box {w w1 : World} {P : List Value} {T : TypeId} (h : InB w P T w1) : Box w1 w.heap.size P := by
  obtain ⟨T', hT⟩ := Box.made w P T
  exact ⟨T', by rw [Below.block h w.heap.size (Nat.lt_succ_self _)]; exact hT⟩
theorem InB.fin {w w1 : World} {P : List Value} {T : TypeId} (h : InB w P T w1) : Below w.heap.size w w1 := (below_grow w _).trans (Below.mono h (Nat.le_succ _))
theorem InB.grown {w w1 w2 : World} {P : List Value} {T : TypeId} {r : Option Nat} (h : InB w P T w1) (hg : w1.grownBy w2 r) (hr : ∀ k, r = some k → w.heap.size + 1 ≤ k) : InB w P T w2 := Below.grown h hg h.size hr

/-- A list of numbers that came in, at whatever address. -/
structure ArgI (w : World) (a : Option Addr) (xs : List Int) : Prop where
  get : ∀ j, j < xs.length → ∃ ad, a = some ad ∧ w.cell? (ad.add j) = some (.int .i64 (nth xs j))
theorem add_block (ad : Addr) (j : Nat) : (ad.add j).block = ad.block := by unfold Addr.add; split <;> rfl
theorem ArgI.on {w w' : World} {a : Option Addr} {xs : List Int} (h : ArgI w a xs) (hb : Below w.heap.size w w') : ArgI w' a xs :=
  ⟨fun j hj => by
    obtain ⟨ad, e, hc⟩ := h.get j hj
    exact ⟨ad, e, (hb.cell (p := ad.add j) (World.block_lt_of_cell? _ _ hc)).trans hc⟩⟩
structure ArgSS (w : World) (a : Option Addr) (xss : List (List Int)) : Prop where
  get : ∀ j, j < xss.length → ∃ ad A c, a = some ad ∧ w.cell? (ad.add j) = some (.slice A (row xss j).length c) ∧ ArgI w A (row xss j)
theorem ArgSS.on {w w' : World} {a : Option Addr} {xss : List (List Int)} (h : ArgSS w a xss) (hb : Below w.heap.size w w') : ArgSS w' a xss :=
  ⟨fun j hj => by
    obtain ⟨ad, A, c, e, hc, hi⟩ := h.get j hj
    exact ⟨ad, A, c, e, (hb.cell (p := ad.add j) (World.block_lt_of_cell? _ _ hc)).trans hc, hi.on hb⟩⟩

theorem Own.form {w : World} {B : Nat} {v : Value} {xs : List Int} (h : Own w B v xs) : ∃ a c, v = .slice a xs.length c := by
  rcases id h.2 with ⟨rfl, h0⟩ | ⟨g, cap, cur, rfl, _⟩
  · exact ⟨none, 0, by rw [h0]⟩
  · exact ⟨_, _, rfl⟩
/-- A number written into an owned list. -/
theorem Own.set {w : World} {B g n cap k : Nat} {xs : List Int} (h : Own w B (.slice (some ⟨g, 0, none⟩) n cap) xs) (hn : xs.length = n) (hk : k < n) (y : Int) :
    (w.frozen? ⟨g, k, none⟩ = false ∧ w.cell? ⟨g, k, none⟩ = some (.int .i64 (nth xs k))) ∧ Own (w.setCell ⟨g, k, none⟩ (.int .i64 y)) B (.slice (some ⟨g, 0, none⟩) n cap) (xs.set k y) ∧ w.grownBy (w.setCell ⟨g, k, none⟩ (.int .i64 y)) (some g) := by
  subst hn
  have hst := World.ownsRow.stored h k (.int .i64 y)
  refine ⟨⟨World.ownsRow.frozenAt h k, ?_⟩, ?_, hst.2⟩
  · rw [World.ownsRow.cellAt h k (by omega), List.getElem?_map, List.getElem?_eq_getElem hk, nth_get hk]; rfl
  · have := hst.1
    unfold Own
    rw [List.length_set, List.map_set]; exact this
def copyTo (xs : List Int) : Nat → List Int
  | 0 => List.replicate xs.length 0
  | k + 1 => (copyTo xs k).set k (nth xs k)
theorem copyTo_len (xs : List Int) : ∀ k, (copyTo xs k).length = xs.length
  | 0 => by simp [copyTo]
  | k + 1 => by unfold copyTo; rw [List.length_set]; exact copyTo_len xs k
theorem copyTo_nth (xs : List Int) : ∀ k, k ≤ xs.length → ∀ j, j < k → nth (copyTo xs k) j = nth xs j
  | 0, _, j, hj => by omega
  | k + 1, hk, j, hj => by
    have hl : k < (copyTo xs k).length := by rw [copyTo_len]; omega
    unfold copyTo
    by_cases e : k = j
    · subst e; unfold nth; rw [List.getD_eq_getElem?_getD, List.getElem?_set_self hl]; rfl
    · rw [← copyTo_nth xs k (by omega) j (by omega)]
      unfold nth; rw [List.getD_eq_getElem?_getD, List.getElem?_set_ne e, ← List.getD_eq_getElem?_getD]
theorem copyTo_all (xs : List Int) : copyTo xs xs.length = xs := by
  refine List.ext_getElem (copyTo_len _ _) fun j h1 h2 => ?_
  rw [← nth_get h1, ← nth_get h2]; exact copyTo_nth xs _ (Nat.le_refl _) j h2
theorem madeCells_list (z : Value) (n : Nat) : (madeCells #[z] n).toList = List.replicate n z := by
  unfold madeCells; simp [Nat.mod_one]; rw [List.map_const', List.length_range]

theorem own_make (w : World) (n : Nat) (hn : n ≤ 1048576) : Own (w.alloc (.cells (madeCells #[.int .i64 0] n) 3)) w.heap.size (.slice (some ⟨w.heap.size, 0, none⟩) n n) (List.replicate n 0) := by
  have hs : (madeCells #[Value.int .i64 0] n).size = n := by rw [← Array.length_toList, madeCells_list]; simp
  have h := World.ownsRow_lit (base := w.heap.size) (e := 3) (size := 1) w (madeCells #[.int .i64 0] n) n (Nat.le_refl _) (by unfold maxLen; omega) (by omega)
  unfold Own
  rw [madeCells_list] at h
  simpa using h

end Go.Proofs.YtiinifcepcaonaaDoor

/- laws.toIntSS, toClaim, toWords. -/
namespace Go.Proofs.YtiinifcepcaonaaDoor
open Go.RowKit

def partS (xss : List (List Int)) : Nat → List (List Int)
  | 0 => List.replicate xss.length []
  | k + 1 => (partS xss k).set k (row xss k)
theorem partS_len (xss : List (List Int)) : ∀ k, (partS xss k).length = xss.length
  | 0 => by simp [partS]
  | k + 1 => by unfold partS; rw [List.length_set]; exact partS_len xss k
theorem partS_row (xss : List (List Int)) : ∀ k, k ≤ xss.length → ∀ j, j < k → row (partS xss k) j = row xss j
  | 0, _, j, hj => by omega
  | k + 1, hk, j, hj => by
    unfold partS
    by_cases e : k = j
    · subst e; rw [row_set (by rw [partS_len]; omega)]
    · rw [row_set_ne e]; exact partS_row xss k (by omega) j (by omega)
theorem partS_all (xss : List (List Int)) : partS xss xss.length = xss := by
  refine List.ext_getElem (partS_len _ _) fun j h1 h2 => ?_
  rw [← row_get h1, ← row_get h2]; exact partS_row xss _ (Nat.le_refl _) j h2
theorem partS_rest (xss : List (List Int)) : ∀ k j, k ≤ j → row (partS xss k) j = []
  | 0, j, _ => by
    by_cases h : j < xss.length
    · rw [row_get (by rw [partS_len]; exact h)]; simp [partS]
    · exact row_out (by rw [partS_len]; omega)
  | k + 1, j, h => by
    unfold partS; rw [row_set_ne (by omega)]; exact partS_rest xss k j (by omega)
theorem outer_make (w : World) (n : Nat) (hn : n ≤ 1048576) : (w.alloc (.cells (madeCells #[.slice none 0 0] n) 33)).ownsRow w.heap.size 33 1 (.slice (some ⟨w.heap.size, 0, none⟩) n n) n (List.replicate n (.slice none 0 0)) := by
  have hs : (madeCells #[Value.slice none 0 0] n).size = n := by rw [← Array.length_toList, madeCells_list]; simp
  have h := World.ownsRow_lit (base := w.heap.size) (e := 33) (size := 1) w (madeCells #[.slice none 0 0] n) n (Nat.le_refl _) (by unfold maxLen; omega) (by omega)
  rw [madeCells_list] at h
  exact h
theorem val_rep (n j : Nat) : val (List.replicate n (.slice none 0 0)) j = .slice none 0 0 := by
  by_cases h : j < n
  · rw [val_get (by simpa using h)]; simp
  · unfold val; rw [List.getD_eq_getElem?_getD, List.getElem?_eq_none (by simp; omega)]; rfl
theorem ownSS_make (w : World) (xss : List (List Int)) (hn : xss.length ≤ 1048576) : OwnSS (w.alloc (.cells (madeCells #[.slice none 0 0] xss.length) 33)) w.heap.size (w.alloc (.cells (madeCells #[.slice none 0 0] xss.length) 33)).heap.size (.slice (some ⟨w.heap.size, 0, none⟩) xss.length xss.length) (List.replicate xss.length (.slice none 0 0)) (partS xss 0) := by
  have ho := outer_make w xss.length hn
  refine ⟨by rw [List.length_replicate]; exact ho, by simp [partS], fun k hk => (ho.lt k hk).2, fun j hj => ?_, fun j hj k hk => ?_, fun i j _ _ k hk _ => ?_, fun j _ k hk _ => ?_⟩
  · rw [val_rep, partS_rest xss 0 j (Nat.zero_le _)]; exact World.ownsRow_nil _ _ _ _
  all_goals rw [val_rep] at hk; simp [Value.ownBlock] at hk

/-- A relation in memory of its own. -/
structure OwnCl (w : World) (lo hi : Nat) (rv mv : Value) (us : List Value) (xss : List (List Int)) (ms : List Int) : Prop where
  parts : ∃ mid, lo ≤ mid ∧ mid ≤ hi ∧ OwnSS w lo mid rv us xss ∧ Own w mid mv ms
  hi1 : ∀ k, mv.ownBlock = some k → k < hi
theorem OwnCl.on {w w' : World} {lo hi : Nat} {rv mv : Value} {us : List Value} {xss : List (List Int)} {ms : List Int} (h : OwnCl w lo hi rv mv us xss ms) (hb : Below w.heap.size w w') : OwnCl w' lo hi rv mv us xss ms := by
  obtain ⟨mid, a, b, c, d⟩ := h.parts
  exact ⟨⟨mid, a, b, c.on hb, own_below d hb⟩, h.hi1⟩
theorem OwnCl.wider {w : World} {lo hi hi' : Nat} {rv mv : Value} {us : List Value} {xss : List (List Int)} {ms : List Int} (h : OwnCl w lo hi rv mv us xss ms) (hl : hi ≤ hi') : OwnCl w lo hi' rv mv us xss ms := by
  obtain ⟨mid, a, b, c, d⟩ := h.parts
  exact ⟨⟨mid, a, by omega, c, d⟩, fun k hk => Nat.lt_of_lt_of_le (h.hi1 k hk) hl⟩
theorem OwnCl.lower {w : World} {lo lo' hi : Nat} {rv mv : Value} {us : List Value} {xss : List (List Int)} {ms : List Int} (h : OwnCl w lo hi rv mv us xss ms) (hl : lo' ≤ lo) : OwnCl w lo' hi rv mv us xss ms := by
  obtain ⟨mid, a, b, c, d⟩ := h.parts
  exact ⟨⟨mid, by omega, b, c.lower hl, d⟩, h.hi1⟩

theorem OwnSS.form {w : World} {lo hi : Nat} {v : Value} {us : List Value} {xss : List (List Int)} (h : OwnSS w lo hi v us xss) : ∃ a c, v = .slice a xss.length c := by
  obtain ⟨a, c, e, _⟩ := outer_cell h.outer
  exact ⟨a, c, by rw [e, h.len]⟩

/-- A talk on a relation in memory of its own. -/
structure OwnW (w : World) (lo hi : Nat) (sv tv : Value) (ss ts : List Int) : Prop where
  s : Own w lo sv ss
  t : Own w lo tv ts
  apart : ∀ k, sv.ownBlock = some k → tv.ownBlock = some k → False
  his : ∀ k, sv.ownBlock = some k → k < hi
  hit : ∀ k, tv.ownBlock = some k → k < hi
theorem OwnW.on {w w' : World} {lo hi : Nat} {sv tv : Value} {ss ts : List Int} (h : OwnW w lo hi sv tv ss ts) (hb : Below w.heap.size w w') : OwnW w' lo hi sv tv ss ts :=
  ⟨own_below h.s hb, own_below h.t hb, h.apart, h.his, h.hit⟩

end Go.Proofs.YtiinifcepcaonaaDoor
