/- Lists of numbers and lists of lists, as slices in memory: read, owned, appended to. -/
import Derived.Test.YtopjlbihhbjhnaaDoorWalkH
import Derived.Test.YtopjlbihhbjhnaaDoorPureR
import Derived.Maps.AppendAt
import Derived.Deep.OwnRows
namespace Go.Proofs.YtopjlbihhbjhnaaDoor
open Go.RowKit

/-- The cells of a list of numbers at the head of a slice. -/
structure IntsA (w : World) (a : Option Addr) (xs : List Int) : Prop where
  max : xs.length ≤ maxLen
  get : ∀ j, j < xs.length → ∃ g, a = some ⟨g, 0, none⟩ ∧ g < w.heap.size ∧ w.cell? ⟨g, j, none⟩ = some (.int .i64 (nth xs j))
theorem Ints.opened {w : World} {v : Value} {xs : List Int} (h : Ints w v xs) : ∃ a c, v = .slice a xs.length c ∧ IntsA w a xs := by
  rcases h with ⟨rfl, rfl⟩ | ⟨g, cap, rfl, hl, hg, hc⟩
  · exact ⟨none, 0, rfl, ⟨by simp, fun j hj => by simp at hj⟩⟩
  · exact ⟨_, _, rfl, hl, fun j hj => ⟨g, rfl, hg, hc j hj⟩⟩
theorem IntsA.on {w w' : World} {a : Option Addr} {xs : List Int} (h : IntsA w a xs) (hb : Below w.heap.size w w') : IntsA w' a xs :=
  ⟨h.max, fun j hj => by
    obtain ⟨g, e, hg, hc⟩ := h.get j hj
    exact ⟨g, e, Nat.lt_of_lt_of_le hg hb.size, (hb.cell (p := ⟨g, j, none⟩) hg).trans hc⟩⟩

/-- The slice v holds the lists xss. -/
def IntSS (w : World) (v : Value) (xss : List (List Int)) : Prop :=
  ∃ a c, v = .slice a xss.length c ∧ xss.length ≤ maxLen ∧ ∀ j, j < xss.length → ∃ g u, a = some ⟨g, 0, none⟩ ∧ g < w.heap.size ∧ w.cell? ⟨g, j, none⟩ = some u ∧ Ints w u (row xss j)
structure IntSSA (w : World) (a : Option Addr) (xss : List (List Int)) : Prop where
  max : xss.length ≤ maxLen
  get : ∀ j, j < xss.length → ∃ g u, a = some ⟨g, 0, none⟩ ∧ g < w.heap.size ∧ w.cell? ⟨g, j, none⟩ = some u ∧ Ints w u (row xss j)
theorem IntSS.opened {w : World} {v : Value} {xss : List (List Int)} (h : IntSS w v xss) : ∃ a c, v = .slice a xss.length c ∧ IntSSA w a xss := by
  obtain ⟨a, c, e, h1, h2⟩ := h
  exact ⟨a, c, e, h1, h2⟩
theorem IntSSA.on {w w' : World} {a : Option Addr} {xss : List (List Int)} (h : IntSSA w a xss) (hb : Below w.heap.size w w') : IntSSA w' a xss :=
  ⟨h.max, fun j hj => by
    obtain ⟨g, u, e, hg, hc, hi⟩ := h.get j hj
    exact ⟨g, u, e, Nat.lt_of_lt_of_le hg hb.size, (hb.cell (p := ⟨g, j, none⟩) hg).trans hc, hi.below hb⟩⟩
theorem IntSS.on {w w' : World} {v : Value} {xss : List (List Int)} (h : IntSS w v xss) (hb : Below w.heap.size w w') : IntSS w' v xss := by
  obtain ⟨a, c, e, h1⟩ := h.opened
  have h2 := h1.on hb
  exact ⟨a, c, e, h2.max, h2.get⟩

/-- The value at place j. -/
def val (us : List Value) (j : Nat) : Value := us.getD j (.slice none 0 0)
theorem val_get {us : List Value} {j : Nat} (h : j < us.length) : val us j = us[j] := by
  unfold val; rw [List.getD_eq_getElem?_getD, List.getElem?_eq_getElem h]; rfl
theorem val_app {us : List Value} {u : Value} {j : Nat} (h : j < us.length) : val (us ++ [u]) j = val us j := by
  rw [val_get h, val_get (by simp; omega), List.getElem_append_left h]
theorem val_last {us : List Value} {u : Value} : val (us ++ [u]) us.length = u := by
  rw [val_get (by simp)]; simp
theorem row_app {xss : List (List Int)} {ys : List Int} {j : Nat} (h : j < xss.length) : row (xss ++ [ys]) j = row xss j := by
  rw [row_get h, row_get (by simp; omega), List.getElem_append_left h]
theorem row_last {xss : List (List Int)} {ys : List Int} : row (xss ++ [ys]) xss.length = ys := by
  rw [row_get (by simp)]; simp
theorem row_set {xss : List (List Int)} {ys : List Int} {k : Nat} (h : k < xss.length) : row (xss.set k ys) k = ys := by
  rw [row_get (by simpa using h)]; simp
theorem row_set_ne {xss : List (List Int)} {ys : List Int} {k j : Nat} (h : k ≠ j) : row (xss.set k ys) j = row xss j := by
  unfold row; rw [List.getD_eq_getElem?_getD, List.getD_eq_getElem?_getD, List.getElem?_set_ne h]

theorem own_heap {w w' : World} {B : Nat} {v : Value} {xs : List Int} (h : Own w B v xs) (hh : ∀ k, v.ownBlock = some k → w'.heap[k]? = w.heap[k]?) : Own w' B v xs := by
  refine ⟨h.1, ?_⟩
  rcases h.2 with h2 | ⟨g, cap, cur, rfl, hg, hb, r⟩
  · exact .inl h2
  · exact .inr ⟨g, cap, cur, rfl, hg, by rw [hh g rfl]; exact hb, r⟩
theorem outer_heap {w w' : World} {B n : Nat} {v : Value} {us : List Value} (h : w.ownsRow B 30 1 v n us) (hh : ∀ k, v.ownBlock = some k → w'.heap[k]? = w.heap[k]?) : w'.ownsRow B 30 1 v n us := by
  refine ⟨h.1, ?_⟩
  rcases h.2 with h2 | ⟨g, cap, cur, rfl, hg, hb, r⟩
  · exact .inl h2
  · exact .inr ⟨g, cap, cur, rfl, hg, by rw [hh g rfl]; exact hb, r⟩

/-- A list of lists, all in blocks of its own, no two in one, from block lo on and below hi. -/
structure OwnSS (w : World) (lo hi : Nat) (v : Value) (us : List Value) (xss : List (List Int)) : Prop where
  outer : w.ownsRow lo 30 1 v us.length us
  len : us.length = xss.length
  hi0 : ∀ k, v.ownBlock = some k → k < hi
  rows : ∀ j, j < us.length → Own w lo (val us j) (row xss j)
  his : ∀ j, j < us.length → ∀ k, (val us j).ownBlock = some k → k < hi
  apart : ∀ i j, i < j → j < us.length → ∀ k, (val us i).ownBlock = some k → (val us j).ownBlock = some k → False
  apart0 : ∀ j, j < us.length → ∀ k, (val us j).ownBlock = some k → v.ownBlock = some k → False
theorem OwnSS.nil (w : World) (lo hi : Nat) : OwnSS w lo hi (.slice none 0 0) [] [] :=
  ⟨World.ownsRow_nil _ _ _ _, rfl, fun k hk => by simp [Value.ownBlock] at hk, fun j hj => by simp at hj, fun j hj => by simp at hj, fun i j _ hj => by simp at hj, fun j hj => by simp at hj⟩
theorem OwnSS.heap {w w' : World} {lo hi : Nat} {v : Value} {us : List Value} {xss : List (List Int)} (h : OwnSS w lo hi v us xss) (hh : ∀ k, lo ≤ k → k < hi → w'.heap[k]? = w.heap[k]?) : OwnSS w' lo hi v us xss :=
  ⟨outer_heap h.outer fun k hk => hh k (h.outer.lt k hk).1 (h.hi0 k hk), h.len, h.hi0, fun j hj => own_heap (h.rows j hj) fun k hk => hh k ((h.rows j hj).lt k hk).1 (h.his j hj k hk), h.his, h.apart, h.apart0⟩
theorem OwnSS.on {w w' : World} {lo hi : Nat} {v : Value} {us : List Value} {xss : List (List Int)} (h : OwnSS w lo hi v us xss) (hb : Below w.heap.size w w') : OwnSS w' lo hi v us xss :=
  ⟨outer_heap h.outer fun k hk => hb.block k (h.outer.lt k hk).2, h.len, h.hi0, fun j hj => own_heap (h.rows j hj) fun k hk => hb.block k ((h.rows j hj).lt k hk).2, h.his, h.apart, h.apart0⟩
theorem OwnSS.wider {w : World} {lo hi hi' : Nat} {v : Value} {us : List Value} {xss : List (List Int)} (h : OwnSS w lo hi v us xss) (hl : hi ≤ hi') : OwnSS w lo hi' v us xss :=
  ⟨h.outer, h.len, fun k hk => Nat.lt_of_lt_of_le (h.hi0 k hk) hl, h.rows, fun j hj k hk => Nat.lt_of_lt_of_le (h.his j hj k hk) hl, h.apart, h.apart0⟩
theorem outer_lower {w : World} {B B' n : Nat} {v : Value} {us : List Value} (h : w.ownsRow B 30 1 v n us) (hB : B' ≤ B) : w.ownsRow B' 30 1 v n us := by
  obtain ⟨h1, h2⟩ := h
  refine ⟨h1, ?_⟩
  rcases h2 with h2 | ⟨g, cap, cur, hv, hg, r⟩
  · exact .inl h2
  · exact .inr ⟨g, cap, cur, hv, by omega, r⟩
theorem OwnSS.lower {w : World} {lo lo' hi : Nat} {v : Value} {us : List Value} {xss : List (List Int)} (h : OwnSS w lo hi v us xss) (hl : lo' ≤ lo) : OwnSS w lo' hi v us xss :=
  ⟨outer_lower h.outer hl, h.len, h.hi0, fun j hj => own_mono (h.rows j hj) hl, h.his, h.apart, h.apart0⟩
theorem outer_cell {w : World} {B n : Nat} {v : Value} {us : List Value} (h : w.ownsRow B 30 1 v n us) : ∃ a c, v = .slice a n c ∧ ∀ j, j < us.length → ∃ g, a = some ⟨g, 0, none⟩ ∧ g < w.heap.size ∧ w.cell? ⟨g, j, none⟩ = some (val us j) := by
  have hlt := h.lt
  have h1 := h.1
  rcases id h.2 with ⟨rfl, hn⟩ | ⟨g, cap, cur, rfl, _⟩
  · exact ⟨none, 0, by rw [hn], fun j hj => by omega⟩
  · refine ⟨_, _, rfl, fun j hj => ⟨g, rfl, (hlt g rfl).2, ?_⟩⟩
    rw [h.cellAt j (by omega), List.getElem?_eq_getElem hj, val_get hj]
theorem OwnSS.ints {w : World} {lo hi : Nat} {v : Value} {us : List Value} {xss : List (List Int)} (h : OwnSS w lo hi v us xss) (hm : xss.length ≤ maxLen) (hr : ∀ j, j < xss.length → (row xss j).length ≤ maxLen) : IntSS w v xss := by
  obtain ⟨a, c, e, h1⟩ := outer_cell h.outer
  refine ⟨a, c, by rw [e, h.len], hm, fun j hj => ?_⟩
  rw [← h.len] at hj
  obtain ⟨g, e1, e2, e3⟩ := h1 j hj
  exact ⟨g, _, e1, e2, e3, Ints.of_own (h.rows j hj) (hr j (by rw [← h.len]; exact hj))⟩

theorem infoRow : (Tryd.prog.info? 30).map (fun i => (i.zero, i.size, i.bytes)) = some (some (.slice none 0 0), 1, 24) := by kernel_rfl

/-- append of one number to an owned list. -/
theorem wpAppInt {ops : Array Oper} {rest : List Oper} {o : Oper} {a : Act} {Q : Exit → Act → World → Prop} {w3 : World} {B : Nat} {v : Value} {xs : List Int} {y : Int} {T : TypeId} (hgd : o.guard = none) (s x : Operand)
    (ho : o.op = .call { callee := .builtin .append, args := #[s, x], argTypes := #[30, 30] }) (hs : a.eval s = v) (hown : Own w3 B v xs) (hl : xs.length < 1000000000) (hB : B ≤ w3.heap.size) (hx : a.eval x = .slice (some ⟨w3.heap.size, 0, none⟩) 1 1)
    (h : ∀ v' w4, Own w4 B v' (xs ++ [y]) → w3.grownBy w4 v.ownBlock → (v'.ownBlock = v.ownBlock ∨ ∃ k, v'.ownBlock = some k ∧ w3.heap.size ≤ k) → wpList Tryd.prog ops Q rest (a.put o.dst v') w4) :
    wpList Tryd.prog ops Q (o :: rest) a (w3.alloc (.cells #[.int .i64 y] T)) := by
  obtain ⟨i0, hi, hz0, hz1, hz2⟩ := info_parts infoInt
  refine wpList_append_own_at (w3.alloc (.cells #[.int .i64 y] T)) hgd s x 30 ho B 3 i0 (.int .i64 0) 1 8 Tryd.underlying30 hi hz0 hz1 hz2 rfl (by decide) v xs.length _ hs (hown.alloc _) ⟨w3.heap.size, 0, none⟩ 1 1 [.int .i64 y] hx rfl (cell_one_new _ _ _) ?_ ?_ ?_ ?_ ?_
  · intro u hu; simp at hu; subst hu; rfl
  · unfold maxLen; omega
  · omega
  · simp; omega
  · intro v' w4 h1 h2 _ h4
    refine h v' w4 ?_ ?_ ?_
    · unfold Own; simpa using h1
    · exact ⟨h2.os, h2.tape, h2.output, Nat.le_trans (by simp) h2.size, fun k hk hne => (h2.block k (by simp; omega) hne).trans (Below.heap_alloc w3 _ k hk)⟩
    · rcases h4 with h4 | h4
      · exact .inl h4
      · exact .inr ⟨_, h4, by simp⟩

/-- append of one slice to an owned list of slices. -/
theorem wpAppRow {ops : Array Oper} {rest : List Oper} {o : Oper} {a : Act} {Q : Exit → Act → World → Prop} {w3 : World} {B : Nat} {v : Value} {us : List Value} {u : Value} {T : TypeId} (hgd : o.guard = none) (s x : Operand)
    (ho : o.op = .call { callee := .builtin .append, args := #[s, x], argTypes := #[29, 29] }) (hs : a.eval s = v) (hown : w3.ownsRow B 30 1 v us.length us) (hl : us.length < 1000000000) (hB : B ≤ w3.heap.size) (hu : u.oneCell' = true) (hx : a.eval x = .slice (some ⟨w3.heap.size, 0, none⟩) 1 1)
    (h : ∀ v' w4, w4.ownsRow B 30 1 v' (us ++ [u]).length (us ++ [u]) → w3.grownBy w4 v.ownBlock → (v'.ownBlock = v.ownBlock ∨ ∃ k, v'.ownBlock = some k ∧ w3.heap.size ≤ k) → wpList Tryd.prog ops Q rest (a.put o.dst v') w4) :
    wpList Tryd.prog ops Q (o :: rest) a (w3.alloc (.cells #[u] T)) := by
  obtain ⟨i0, hi, hz0, hz1, hz2⟩ := info_parts infoRow
  refine wpList_append_own_at (w3.alloc (.cells #[u] T)) hgd s x 29 ho B 30 i0 (.slice none 0 0) 1 24 Tryd.underlying29 hi hz0 hz1 hz2 rfl (by decide) v us.length _ hs (hown.alloc _) ⟨w3.heap.size, 0, none⟩ 1 1 [u] hx rfl (cell_one_new _ _ _) ?_ ?_ ?_ ?_ ?_
  · intro u' hu'; simp at hu'; subst hu'; exact hu
  · unfold maxLen; omega
  · omega
  · simp; omega
  · intro v' w4 h1 h2 _ h4
    refine h v' w4 ?_ ?_ ?_
    · simpa using h1
    · exact ⟨h2.os, h2.tape, h2.output, Nat.le_trans (by simp) h2.size, fun k hk hne => (h2.block k (by simp; omega) hne).trans (Below.heap_alloc w3 _ k hk)⟩
    · rcases h4 with h4 | h4
      · exact .inl h4
      · exact .inr ⟨_, h4, by simp⟩

/-- A row more. -/
theorem OwnSS.app {w3 w4 : World} {lo hi hi' : Nat} {v v' u : Value} {us : List Value} {xss : List (List Int)} {ys : List Int} (h : OwnSS w3 lo hi v us xss) (hh : hi ≤ hi') (h3 : w3.heap.size ≤ w4.heap.size) (h4 : w4.heap.size ≤ hi')
    (hu : Own w3 lo u ys) (hd : ∀ j, j < us.length → ∀ k, (val us j).ownBlock = some k → u.ownBlock = some k → False) (h0 : ∀ k, u.ownBlock = some k → v.ownBlock = some k → False)
    (ho : w4.ownsRow lo 30 1 v' (us ++ [u]).length (us ++ [u])) (hg : w3.grownBy w4 v.ownBlock) (hk : v'.ownBlock = v.ownBlock ∨ ∃ k, v'.ownBlock = some k ∧ w3.heap.size ≤ k) : OwnSS w4 lo hi' v' (us ++ [u]) (xss ++ [ys]) := by
  have keep : ∀ {x : Value} {zs : List Int}, Own w3 lo x zs → (∀ k, x.ownBlock = some k → v.ownBlock = some k → False) → Own w4 lo x zs := fun {x zs} hx hn =>
    hx.kept hg (by
      cases hv : x.ownBlock with
      | none => exact .inl rfl
      | some k => exact .inr fun e => hn k hv e.symm)
  have new0 : ∀ {x : Value} {zs : List Int}, Own w3 lo x zs → (∀ k, x.ownBlock = some k → v.ownBlock = some k → False) → ∀ k, x.ownBlock = some k → v'.ownBlock = some k → False := fun {x zs} hx hn k h1 h2 => by
    rcases hk with hk | ⟨m, hm, hl⟩
    · exact hn k h1 (by rw [← hk]; exact h2)
    · have := (hx.lt k h1).2
      rw [hm] at h2; cases h2; omega
  have hl : ∀ j, j < (us ++ [u]).length → j < us.length ∨ j = us.length := fun j hj => by simp at hj; omega
  refine ⟨ho, by simp [h.len], fun k hk' => Nat.lt_of_lt_of_le (ho.lt k hk').2 h4, fun j hj => ?_, fun j hj k hk' => ?_, fun i j hij hj k h1 h2 => ?_, fun j hj k h1 h2 => ?_⟩
  · rcases hl j hj with e | e
    · rw [val_app e, row_app (by rw [← h.len]; exact e)]; exact keep (h.rows j e) (h.apart0 j e)
    · rw [e, val_last, h.len, row_last]; exact keep hu h0
  · rcases hl j hj with e | e
    · rw [val_app e] at hk'; exact Nat.lt_of_lt_of_le (h.his j e k hk') hh
    · rw [e, val_last] at hk'
      exact Nat.lt_of_lt_of_le (hu.lt k hk').2 (Nat.le_trans h3 h4)
  · have ei : i < us.length := by rcases hl j hj with e | e <;> omega
    rw [val_app ei] at h1
    rcases hl j hj with e | e
    · rw [val_app e] at h2; exact h.apart i j hij e k h1 h2
    · rw [e, val_last] at h2; exact hd i ei k h1 h2
  · rcases hl j hj with e | e
    · rw [val_app e] at h1; exact new0 (h.rows j e) (h.apart0 j e) k h1 h2
    · rw [e, val_last] at h1; exact new0 hu h0 k h1 h2

/-- A row written anew in place. -/
theorem OwnSS.set {w w' : World} {lo hi j : Nat} {v : Value} {us : List Value} {xss : List (List Int)} {ys : List Int} (h : OwnSS w lo hi v us xss) (hj : j < us.length) (hu : Own w' lo (val us j) ys) (hg : w.grownBy w' (val us j).ownBlock) : OwnSS w' lo hi v us (xss.set j ys) := by
  have keep : ∀ {x : Value} {zs : List Int}, Own w lo x zs → (∀ k, x.ownBlock = some k → (val us j).ownBlock = some k → False) → Own w' lo x zs := fun {x zs} hx hn =>
    hx.kept hg (by
      cases hv : x.ownBlock with
      | none => exact .inl rfl
      | some k => exact .inr fun e => hn k hv e.symm)
  refine ⟨h.outer.kept hg (by
      cases hv : v.ownBlock with
      | none => exact .inl rfl
      | some k => exact .inr fun e => h.apart0 j hj k e.symm hv), by rw [List.length_set]; exact h.len, h.hi0, fun i hi => ?_, h.his, h.apart, h.apart0⟩
  by_cases e : j = i
  · subst e; rw [row_set (by rw [← h.len]; exact hj)]; exact hu
  · rw [row_set_ne e]
    refine keep (h.rows i hi) fun k h1 h2 => ?_
    rcases Nat.lt_or_ge i j with hl | hl
    · exact h.apart i j hl hj k h1 h2
    · exact h.apart j i (by omega) hi k h2 h1

/-- Nothing changed but blocks from lo on and below hi, and new ones. -/
structure Outside (lo hi : Nat) (w w' : World) : Prop where
  os : w'.os = w.os
  tape : w'.tape = w.tape
  output : w'.output = w.output
  size : w.heap.size ≤ w'.heap.size
  block : ∀ k, k < w.heap.size → (k < lo ∨ hi ≤ k) → w'.heap[k]? = w.heap[k]?
theorem Outside.refl (lo hi : Nat) (w : World) : Outside lo hi w w := ⟨rfl, rfl, rfl, Nat.le_refl _, fun _ _ _ => rfl⟩
theorem Outside.trans {lo hi : Nat} {a b c : World} (h : Outside lo hi a b) (k : Outside lo hi b c) : Outside lo hi a c :=
  ⟨k.os.trans h.os, k.tape.trans h.tape, k.output.trans h.output, Nat.le_trans h.size k.size, fun i hi' hr => (k.block i (Nat.lt_of_lt_of_le hi' h.size) hr).trans (h.block i hi' hr)⟩
theorem Outside.of_grown {lo hi : Nat} {w w' : World} {r : Option Nat} (h : w.grownBy w' r) (hr : ∀ k, r = some k → lo ≤ k ∧ k < hi) : Outside lo hi w w' :=
  ⟨h.os, h.tape, h.output, h.size, fun k hk hne => h.block k hk fun e => by have := hr k e.symm; omega⟩
theorem Outside.below {lo hi : Nat} {w w' : World} (h : Outside lo hi w w') (hl : lo ≤ w.heap.size) : Below lo w w' :=
  ⟨h.os, h.tape, h.output, h.size, fun k hk => h.block k (Nat.lt_of_lt_of_le hk hl) (.inl hk)⟩
theorem Outside.own {lo hi : Nat} {w w' : World} {B : Nat} {v : Value} {xs : List Int} (h : Outside lo hi w w') (ho : Own w B v xs) (hB : hi ≤ B) : Own w' B v xs :=
  own_heap ho fun k hk => h.block k (ho.lt k hk).2 (.inr (Nat.le_trans hB (ho.lt k hk).1))
theorem Outside.low {lo hi : Nat} {w w' : World} {B : Nat} {v : Value} {xs : List Int} (h : Outside lo hi w w') (ho : Own w B v xs) (hB : ∀ k, v.ownBlock = some k → k < lo) : Own w' B v xs :=
  own_heap ho fun k hk => h.block k (ho.lt k hk).2 (.inl (hB k hk))
theorem Outside.ownSS {lo hi : Nat} {w w' : World} {B hi' : Nat} {v : Value} {us : List Value} {xss : List (List Int)} (h : Outside lo hi w w') (ho : OwnSS w B hi' v us xss) (hB : hi ≤ B) : OwnSS w' B hi' v us xss :=
  ⟨outer_heap ho.outer fun k hk => h.block k (ho.outer.lt k hk).2 (.inr (Nat.le_trans hB (ho.outer.lt k hk).1)), ho.len, ho.hi0, fun j hj => h.own (ho.rows j hj) hB, ho.his, ho.apart, ho.apart0⟩

/-- A row put in the place of one that holds nothing. -/
theorem OwnSS.put {w : World} {lo g cap j : Nat} {u : Value} {us : List Value} {xss : List (List Int)} {ys : List Int} (h : OwnSS w lo w.heap.size (.slice (some ⟨g, 0, none⟩) us.length cap) us xss) (hj : j < us.length)
    (hu : Own w lo u ys) (hd : ∀ i, i < us.length → ∀ k, (val us i).ownBlock = some k → u.ownBlock = some k → False) (h0 : ∀ k, u.ownBlock = some k → k = g → False) :
    OwnSS (w.setCell ⟨g, j, none⟩ u) lo (w.setCell ⟨g, j, none⟩ u).heap.size (.slice (some ⟨g, 0, none⟩) us.length cap) (us.set j u) (xss.set j ys) ∧ w.grownBy (w.setCell ⟨g, j, none⟩ u) (some g) := by
  have hst := h.outer.stored j u
  have hsz : (w.setCell ⟨g, j, none⟩ u).heap.size = w.heap.size := by simp [World.setCell]
  have keep : ∀ {x : Value} {zs : List Int}, Own w lo x zs → (∀ k, x.ownBlock = some k → k = g → False) → Own (w.setCell ⟨g, j, none⟩ u) lo x zs := fun {x zs} hx hn =>
    hx.kept hst.2 (by
      cases hv : x.ownBlock with
      | none => exact .inl rfl
      | some k => exact .inr fun e => hn k hv (by cases e; rfl))
  have hval : ∀ i, i < us.length → val (us.set j u) i = if j = i then u else val us i := fun i hi => by
    rw [val_get (by simpa using hi), List.getElem_set]
    by_cases e : j = i
    · rw [if_pos e, if_pos e]
    · rw [if_neg e, if_neg e, val_get hi]
  have a0 : ∀ i, i < us.length → ∀ k, (val us i).ownBlock = some k → k = g → False := fun i hi k h1 h2 => h.apart0 i hi k h1 (by rw [h2]; rfl)
  refine ⟨⟨by rw [List.length_set]; exact hst.1, by rw [List.length_set, List.length_set]; exact h.len, fun k hk => by rw [hsz]; exact h.hi0 k hk, fun i hi => ?_, fun i hi k hk => ?_, fun i i' hii hi k h1 h2 => ?_, fun i hi k h1 h2 => ?_⟩, hst.2⟩
  · rw [List.length_set] at hi
    rw [hval i hi]
    by_cases e : j = i
    · subst e; rw [if_pos rfl, row_set (by rw [← h.len]; exact hj)]; exact keep hu h0
    · rw [if_neg e, row_set_ne e]; exact keep (h.rows i hi) (a0 i hi)
  · rw [List.length_set] at hi
    rw [hval i hi] at hk
    rw [hsz]
    by_cases e : j = i
    · rw [if_pos e] at hk; exact (hu.lt k hk).2
    · rw [if_neg e] at hk; exact h.his i hi k hk
  · rw [List.length_set] at hi
    rw [hval i' hi] at h2
    rw [hval i (by omega)] at h1
    by_cases e : j = i
    · rw [if_pos e] at h1
      rw [if_neg (by omega)] at h2
      exact hd i' hi k h2 h1
    · rw [if_neg e] at h1
      by_cases e' : j = i'
      · rw [if_pos e'] at h2; exact hd i (by omega) k h1 h2
      · rw [if_neg e'] at h2; exact h.apart i i' hii hi k h1 h2
  · rw [List.length_set] at hi
    rw [hval i hi] at h1
    have h3 : k = g := by cases h2; rfl
    by_cases e : j = i
    · rw [if_pos e] at h1; exact h0 k h1 h3
    · rw [if_neg e] at h1; exact a0 i hi k h1 h3
end Go.Proofs.YtopjlbihhbjhnaaDoor
