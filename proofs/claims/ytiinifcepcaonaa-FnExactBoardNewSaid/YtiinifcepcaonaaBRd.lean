/- Rd, Box, Copy, in one text. -/
import Derived.Test.YtiinifcepcaonaaBWalk
import Derived.Test.YtiinifcepcaonaaBPure
import Derived.Maps.AppendAt
import Derived.Deep.OwnRows
import Derived.Laws.ResultCell
/- Lists of numbers and lists of lists, as slices in memory: read, owned, appended to. -/
namespace Go.Proofs.Ytiinifcepcaonaa
open Go.RowKit

/-- The cells of a list of numbers at the head of a slice. -/
structure IntsA (w : World) (a : Option Addr) (xs : List Int) : Prop where
  max : xs.length ≤ maxLen
  get : ∀ j, j < xs.length → ∃ g, a = some ⟨g, 0, none⟩ ∧ g < w.heap.size ∧ w.cell? ⟨g, j, none⟩ = some (.int .i64 (nth xs j))
theorem Ints.opened {w : World} {v : Value} {xs : List Int} (h : Ints w v xs) : ∃ a c, v = .slice a xs.length c ∧ IntsA w a xs := by
  rcases h with ⟨rfl, rfl⟩ | ⟨g, cap, rfl, hl, hg, hc⟩
  · exact ⟨none, 0, rfl, ⟨by simp, fun j hj => by simp at hj⟩⟩
  · exact ⟨_, _, rfl, hl, fun j hj => ⟨g, rfl, hg, hc j hj⟩⟩
theorem IntsA.on {w w' : World} {a : Option Addr} {xs : List Int} (h : IntsA w a xs) (hb : Below w.heap.size w w') : IntsA w' a xs :=
  ⟨h.max, fun j hj => by
    obtain ⟨g, e, hg, hc⟩ := h.get j hj
    exact ⟨g, e, Nat.lt_of_lt_of_le hg hb.size, (hb.cell (p := ⟨g, j, none⟩) hg).trans hc⟩⟩

/-- The slice v holds the lists xss. -/
def IntSS (w : World) (v : Value) (xss : List (List Int)) : Prop :=
  ∃ a c, v = .slice a xss.length c ∧ xss.length ≤ maxLen ∧ ∀ j, j < xss.length → ∃ g u, a = some ⟨g, 0, none⟩ ∧ g < w.heap.size ∧ w.cell? ⟨g, j, none⟩ = some u ∧ Ints w u (row xss j)
structure IntSSA (w : World) (a : Option Addr) (xss : List (List Int)) : Prop where
  max : xss.length ≤ maxLen
  get : ∀ j, j < xss.length → ∃ g u, a = some ⟨g, 0, none⟩ ∧ g < w.heap.size ∧ w.cell? ⟨g, j, none⟩ = some u ∧ Ints w u (row xss j)
theorem IntSS.opened {w : World} {v : Value} {xss : List (List Int)} (h : IntSS w v xss) : ∃ a c, v = .slice a xss.length c ∧ IntSSA w a xss := by
  obtain ⟨a, c, e, h1, h2⟩ := h
  exact ⟨a, c, e, h1, h2⟩
theorem IntSSA.on {w w' : World} {a : Option Addr} {xss : List (List Int)} (h : IntSSA w a xss) (hb : Below w.heap.size w w') : IntSSA w' a xss :=
  ⟨h.max, fun j hj => by
    obtain ⟨g, u, e, hg, hc, hi⟩ := h.get j hj
    exact ⟨g, u, e, Nat.lt_of_lt_of_le hg hb.size, (hb.cell (p := ⟨g, j, none⟩) hg).trans hc, hi.below hb⟩⟩
theorem IntSS.on {w w' : World} {v : Value} {xss : List (List Int)} (h : IntSS w v xss) (hb : Below w.heap.size w w') : IntSS w' v xss := by
  obtain ⟨a, c, e, h1⟩ := h.opened
  have h2 := h1.on hb
  exact ⟨a, c, e, h2.max, h2.get⟩

/-- The value at place j. -/
def val (us : List Value) (j : Nat) : Value := us.getD j (.slice none 0 0)
theorem val_get {us : List Value} {j : Nat} (h : j < us.length) : val us j = us[j] := by
  unfold val; rw [List.getD_eq_getElem?_getD, List.getElem?_eq_getElem h]; rfl
theorem val_app {us : List Value} {u : Value} {j : Nat} (h : j < us.length) : val (us ++ [u]) j = val us j := by
  rw [val_get h, val_get (by simp; omega), List.getElem_append_left h]
theorem val_last {us : List Value} {u : Value} : val (us ++ [u]) us.length = u := by
  rw [val_get (by simp)]; simp
theorem row_app {xss : List (List Int)} {ys : List Int} {j : Nat} (h : j < xss.length) : row (xss ++ [ys]) j = row xss j := by
  rw [row_get h, row_get (by simp; omega), List.getElem_append_left h]
theorem row_last {xss : List (List Int)} {ys : List Int} : row (xss ++ [ys]) xss.length = ys := by
  rw [row_get (by simp)]; simp
theorem row_set {xss : List (List Int)} {ys : List Int} {k : Nat} (h : k < xss.length) : row (xss.set k ys) k = ys := by
  rw [row_get (by simpa using h)]; simp
theorem row_set_ne {xss : List (List Int)} {ys : List Int} {k j : Nat} (h : k ≠ j) : row (xss.set k ys) j = row xss j := by
  unfold row; rw [List.getD_eq_getElem?_getD, List.getD_eq_getElem?_getD, List.getElem?_set_ne h]

theorem own_heap {w w' : World} {B : Nat} {v : Value} {xs : List Int} (h : Own w B v xs) (hh : ∀ k, v.ownBlock = some k → w'.heap[k]? = w.heap[k]?) : Own w' B v xs := by
  refine ⟨h.1, ?_⟩
  rcases h.2 with h2 | ⟨g, cap, cur, rfl, hg, hb, r⟩
  · exact .inl h2
  · exact .inr ⟨g, cap, cur, rfl, hg, by rw [hh g rfl]; exact hb, r⟩
/-- Nothing changed but blocks from lo on and below hi, and new ones. -/
structure Outside (lo hi : Nat) (w w' : World) : Prop where
  os : w'.os = w.os
  tape : w'.tape = w.tape
  output : w'.output = w.output
  size : w.heap.size ≤ w'.heap.size
  block : ∀ k, k < w.heap.size → (k < lo ∨ hi ≤ k) → w'.heap[k]? = w.heap[k]?
theorem Outside.refl (lo hi : Nat) (w : World) : Outside lo hi w w := ⟨rfl, rfl, rfl, Nat.le_refl _, fun _ _ _ => rfl⟩
theorem Outside.trans {lo hi : Nat} {a b c : World} (h : Outside lo hi a b) (k : Outside lo hi b c) : Outside lo hi a c :=
  ⟨k.os.trans h.os, k.tape.trans h.tape, k.output.trans h.output, Nat.le_trans h.size k.size, fun i hi' hr => (k.block i (Nat.lt_of_lt_of_le hi' h.size) hr).trans (h.block i hi' hr)⟩
theorem Outside.of_grown {lo hi : Nat} {w w' : World} {r : Option Nat} (h : w.grownBy w' r) (hr : ∀ k, r = some k → lo ≤ k ∧ k < hi) : Outside lo hi w w' :=
  ⟨h.os, h.tape, h.output, h.size, fun k hk hne => h.block k hk fun e => by have := hr k e.symm; omega⟩
theorem Outside.below {lo hi : Nat} {w w' : World} (h : Outside lo hi w w') (hl : lo ≤ w.heap.size) : Below lo w w' :=
  ⟨h.os, h.tape, h.output, h.size, fun k hk => h.block k (Nat.lt_of_lt_of_le hk hl) (.inl hk)⟩
theorem Outside.own {lo hi : Nat} {w w' : World} {B : Nat} {v : Value} {xs : List Int} (h : Outside lo hi w w') (ho : Own w B v xs) (hB : hi ≤ B) : Own w' B v xs :=
  own_heap ho fun k hk => h.block k (ho.lt k hk).2 (.inr (Nat.le_trans hB (ho.lt k hk).1))
theorem Outside.low {lo hi : Nat} {w w' : World} {B : Nat} {v : Value} {xs : List Int} (h : Outside lo hi w w') (ho : Own w B v xs) (hB : ∀ k, v.ownBlock = some k → k < lo) : Own w' B v xs :=
  own_heap ho fun k hk => h.block k (ho.lt k hk).2 (.inl (hB k hk))
end Go.Proofs.Ytiinifcepcaonaa

/- Boxes: blocks that hold a struct; lists that came in; laws.toIntS, toIntSS, toClaim, toWords. -/
namespace Go.Proofs.Ytiinifcepcaonaa
open Go.RowKit

theorem below_of_drew {w w' : World} {m : Nat} (h : w' = w.drewN m) : Below w.heap.size w w' := by rw [h]; exact below_drewN (Below.refl _ _) m
/-- Block N holds the cells cs. -/
def Box (w : World) (N : Nat) (cs : List Value) : Prop := ∃ T, w.heap[N]? = some (.cells cs.toArray T (0, 0))
theorem Box.lt {w : World} {N : Nat} {cs : List Value} (h : Box w N cs) : N < w.heap.size := by
  obtain ⟨T, h⟩ := h; exact (Array.getElem?_eq_some_iff.1 h).1
theorem Box.cell {w : World} {N : Nat} {cs : List Value} (h : Box w N cs) (j : Nat) : w.cell? ⟨N, j, none⟩ = cs[j]? := by
  obtain ⟨T, h⟩ := h; simp [World.cell?, h]
theorem Box.frozen {w : World} {N : Nat} {cs : List Value} (h : Box w N cs) (j : Nat) : w.frozen? ⟨N, j, none⟩ = false := by
  obtain ⟨T, h⟩ := h; simp [World.frozen?, h]
theorem Box.on {w w' : World} {N : Nat} {cs : List Value} (h : Box w N cs) (hb : Below w.heap.size w w') : Box w' N cs := by
  have hl := h.lt
  obtain ⟨T, h⟩ := h
  exact ⟨T, by rw [hb.block N hl]; exact h⟩
theorem Box.low {w w' : World} {N B : Nat} {cs : List Value} (h : Box w N cs) (hb : Below B w w') (hN : N < B) : Box w' N cs := by
  obtain ⟨T, h⟩ := h
  exact ⟨T, by rw [hb.block N hN]; exact h⟩
theorem Box.made (w : World) (cs : List Value) (T : TypeId) : Box (w.alloc (.cells cs.toArray T)) w.heap.size cs := ⟨T, by show (w.heap.push _)[w.heap.size]? = _; simp⟩
theorem Box.alloc {w : World} {N : Nat} {cs : List Value} (h : Box w N cs) (o : Obj) : Box (w.alloc o) N cs := by
  have hl := h.lt
  obtain ⟨T, h⟩ := h
  exact ⟨T, by rw [Below.heap_alloc w o N hl]; exact h⟩
theorem Box.set {w : World} {N : Nat} {cs : List Value} (h : Box w N cs) (j : Nat) (v : Value) : Box (w.setCell ⟨N, j, none⟩ v) N (cs.set j v) := by
  obtain ⟨T, h⟩ := h
  exact ⟨T, by simp [World.setCell, Array.getElem?_modify, h]⟩
theorem Box.far {w : World} {N M j : Nat} {cs : List Value} (h : Box w N cs) (hne : N ≠ M) (v : Value) : Box (w.setCell ⟨M, j, none⟩ v) N cs := by
  obtain ⟨T, h⟩ := h
  exact ⟨T, by rw [Below.heap_setCell _ _ _ _ hne]; exact h⟩
theorem below_grow (w : World) (o : Obj) : Below w.heap.size w (w.alloc o) := (Below.refl _ _).alloc (Nat.le_refl _) _
theorem Box.drewN {w : World} {N m : Nat} {cs : List Value} (h : Box w N cs) : Box (w.drewN m) N cs := h

theorem boxes1 {w w1 : World} {P : List Value} {T1 : TypeId} (hb : Below (w.alloc (.cells P.toArray T1)).heap.size (w.alloc (.cells P.toArray T1)) w1) : Box w1 w.heap.size P ∧ Below w.heap.size w w1 :=
  ⟨(Box.made w P T1).on hb, (below_grow w _).trans (hb.mono (by simp))⟩
theorem boxes2 {w w1 : World} {P R : List Value} {T1 T2 : TypeId} (hb : Below ((w.alloc (.cells P.toArray T1)).alloc (.cells R.toArray T2)).heap.size ((w.alloc (.cells P.toArray T1)).alloc (.cells R.toArray T2)) w1) :
    Box w1 w.heap.size P ∧ Box w1 (w.heap.size + 1) R ∧ Below w.heap.size w w1 := by
  have h1 := Box.made w P T1
  have h2 := Box.made (w.alloc (.cells P.toArray T1)) R T2
  rw [show (w.alloc (.cells P.toArray T1)).heap.size = w.heap.size + 1 by simp] at h2
  exact ⟨(h1.alloc _).on hb, h2.on hb, ((below_grow w _).trans ((below_grow _ _).mono (by simp))).trans (hb.mono (by simp; omega))⟩
theorem boxes3 {w w1 : World} {P R O : List Value} {T1 T2 T3 : TypeId} (hb : Below (((w.alloc (.cells P.toArray T1)).alloc (.cells R.toArray T2)).alloc (.cells O.toArray T3)).heap.size (((w.alloc (.cells P.toArray T1)).alloc (.cells R.toArray T2)).alloc (.cells O.toArray T3)) w1) :
    Box w1 w.heap.size P ∧ Box w1 (w.heap.size + 1) R ∧ Box w1 (w.heap.size + 1 + 1) O ∧ Below w.heap.size w w1 := by
  have h1 := Box.made w P T1
  have h2 := Box.made (w.alloc (.cells P.toArray T1)) R T2
  have h3 := Box.made ((w.alloc (.cells P.toArray T1)).alloc (.cells R.toArray T2)) O T3
  rw [show (w.alloc (.cells P.toArray T1)).heap.size = w.heap.size + 1 by simp] at h2
  rw [show ((w.alloc (.cells P.toArray T1)).alloc (.cells R.toArray T2)).heap.size = w.heap.size + 1 + 1 by simp] at h3
  exact ⟨((h1.alloc _).alloc _).on hb, (h2.alloc _).on hb, h3.on hb, (((below_grow w _).trans ((below_grow _ _).mono (by simp))).trans ((below_grow _ _).mono (by simp; omega))).trans (hb.mono (by simp; omega))⟩

/-- A world behind the one in which a box was made at the head of a function; the box is as it was. -/
def InB (w : World) (P : List Value) (T : TypeId) (w1 : World) : Prop := Below (w.heap.size + 1) (w.alloc (.cells P.toArray T)) w1
theorem InB.start (w : World) (P : List Value) (T : TypeId) : InB w P T (w.alloc (.cells P.toArray T)) := Below.refl _ _
theorem InB.of {w w1 : World} {P : List Value} {T : TypeId} (hb : Below (w.alloc (.cells P.toArray T)).heap.size (w.alloc (.cells P.toArray T)) w1) : InB w P T w1 := hb.mono (by simp)
theorem InB.size {w w1 : World} {P : List Value} {T : TypeId} (h : InB w P T w1) : w.heap.size + 1 ≤ w1.heap.size := by have := Below.size h; simpa using this
theorem InB.on {w w1 w2 : World} {P : List Value} {T : TypeId} (h : InB w P T w1) (hb : Below w1.heap.size w1 w2) : InB w P T w2 := Below.trans h (hb.mono h.size)
theorem InB.box {w w1 : World} {P : List Value} {T : TypeId} (h : InB w P T w1) : Box w1 w.heap.size P := by
  obtain ⟨T', hT⟩ := Box.made w P T
  exact ⟨T', by rw [Below.block h w.heap.size (Nat.lt_succ_self _)]; exact hT⟩
theorem InB.fin {w w1 : World} {P : List Value} {T : TypeId} (h : InB w P T w1) : Below w.heap.size w w1 := (below_grow w _).trans (Below.mono h (Nat.le_succ _))
theorem InB.grown {w w1 w2 : World} {P : List Value} {T : TypeId} {r : Option Nat} (h : InB w P T w1) (hg : w1.grownBy w2 r) (hr : ∀ k, r = some k → w.heap.size + 1 ≤ k) : InB w P T w2 := Below.grown h hg h.size hr

/-- A list of numbers that came in, at whatever address. -/
structure ArgI (w : World) (a : Option Addr) (xs : List Int) : Prop where
  get : ∀ j, j < xs.length → ∃ ad, a = some ad ∧ w.cell? (ad.add j) = some (.int .i64 (nth xs j))
theorem add_block (ad : Addr) (j : Nat) : (ad.add j).block = ad.block := by unfold Addr.add; split <;> rfl
theorem ArgI.on {w w' : World} {a : Option Addr} {xs : List Int} (h : ArgI w a xs) (hb : Below w.heap.size w w') : ArgI w' a xs :=
  ⟨fun j hj => by
    obtain ⟨ad, e, hc⟩ := h.get j hj
    exact ⟨ad, e, (hb.cell (p := ad.add j) (World.block_lt_of_cell? _ _ hc)).trans hc⟩⟩
structure ArgSS (w : World) (a : Option Addr) (xss : List (List Int)) : Prop where
  get : ∀ j, j < xss.length → ∃ ad A c, a = some ad ∧ w.cell? (ad.add j) = some (.slice A (row xss j).length c) ∧ ArgI w A (row xss j)
theorem ArgSS.on {w w' : World} {a : Option Addr} {xss : List (List Int)} (h : ArgSS w a xss) (hb : Below w.heap.size w w') : ArgSS w' a xss :=
  ⟨fun j hj => by
    obtain ⟨ad, A, c, e, hc, hi⟩ := h.get j hj
    exact ⟨ad, A, c, e, (hb.cell (p := ad.add j) (World.block_lt_of_cell? _ _ hc)).trans hc, hi.on hb⟩⟩

theorem Own.form {w : World} {B : Nat} {v : Value} {xs : List Int} (h : Own w B v xs) : ∃ a c, v = .slice a xs.length c := by
  rcases id h.2 with ⟨rfl, h0⟩ | ⟨g, cap, cur, rfl, _⟩
  · exact ⟨none, 0, by rw [h0]⟩
  · exact ⟨_, _, rfl⟩
/-- A number written into an owned list. -/
theorem Own.set {w : World} {B g n cap k : Nat} {xs : List Int} (h : Own w B (.slice (some ⟨g, 0, none⟩) n cap) xs) (hn : xs.length = n) (hk : k < n) (y : Int) :
    (w.frozen? ⟨g, k, none⟩ = false ∧ w.cell? ⟨g, k, none⟩ = some (.int .i64 (nth xs k))) ∧ Own (w.setCell ⟨g, k, none⟩ (.int .i64 y)) B (.slice (some ⟨g, 0, none⟩) n cap) (xs.set k y) ∧ w.grownBy (w.setCell ⟨g, k, none⟩ (.int .i64 y)) (some g) := by
  subst hn
  have hst := World.ownsRow.stored h k (.int .i64 y)
  refine ⟨⟨World.ownsRow.frozenAt h k, ?_⟩, ?_, hst.2⟩
  · rw [World.ownsRow.cellAt h k (by omega), List.getElem?_map, List.getElem?_eq_getElem hk, nth_get hk]; rfl
  · have := hst.1
    unfold Own
    rw [List.length_set, List.map_set]; exact this
def copyTo (xs : List Int) : Nat → List Int
  | 0 => List.replicate xs.length 0
  | k + 1 => (copyTo xs k).set k (nth xs k)
theorem copyTo_len (xs : List Int) : ∀ k, (copyTo xs k).length = xs.length
  | 0 => by simp [copyTo]
  | k + 1 => by unfold copyTo; rw [List.length_set]; exact copyTo_len xs k
theorem copyTo_nth (xs : List Int) : ∀ k, k ≤ xs.length → ∀ j, j < k → nth (copyTo xs k) j = nth xs j
  | 0, _, j, hj => by omega
  | k + 1, hk, j, hj => by
    have hl : k < (copyTo xs k).length := by rw [copyTo_len]; omega
    unfold copyTo
    by_cases e : k = j
    · subst e; unfold nth; rw [List.getD_eq_getElem?_getD, List.getElem?_set_self hl]; rfl
    · rw [← copyTo_nth xs k (by omega) j (by omega)]
      unfold nth; rw [List.getD_eq_getElem?_getD, List.getElem?_set_ne e, ← List.getD_eq_getElem?_getD]
theorem copyTo_all (xs : List Int) : copyTo xs xs.length = xs := by
  refine List.ext_getElem (copyTo_len _ _) fun j h1 h2 => ?_
  rw [← nth_get h1, ← nth_get h2]; exact copyTo_nth xs _ (Nat.le_refl _) j h2
theorem madeCells_list (z : Value) (n : Nat) : (madeCells #[z] n).toList = List.replicate n z := by
  unfold madeCells; simp [Nat.mod_one]; rw [List.map_const', List.length_range]

theorem own_make (w : World) (n : Nat) (hn : n ≤ 1048576) : Own (w.alloc (.cells (madeCells #[.int .i64 0] n) 3)) w.heap.size (.slice (some ⟨w.heap.size, 0, none⟩) n n) (List.replicate n 0) := by
  have hs : (madeCells #[Value.int .i64 0] n).size = n := by rw [← Array.length_toList, madeCells_list]; simp
  have h := World.ownsRow_lit (base := w.heap.size) (e := 3) (size := 1) w (madeCells #[.int .i64 0] n) n (Nat.le_refl _) (by unfold maxLen; omega) (by omega)
  unfold Own
  rw [madeCells_list] at h
  simpa using h

end Go.Proofs.Ytiinifcepcaonaa

/- laws.toIntSS, toClaim, toWords. -/
namespace Go.Proofs.Ytiinifcepcaonaa
open Go.RowKit

def partS (xss : List (List Int)) : Nat → List (List Int)
  | 0 => List.replicate xss.length []
  | k + 1 => (partS xss k).set k (row xss k)
theorem partS_len (xss : List (List Int)) : ∀ k, (partS xss k).length = xss.length
  | 0 => by simp [partS]
  | k + 1 => by unfold partS; rw [List.length_set]; exact partS_len xss k
theorem partS_row (xss : List (List Int)) : ∀ k, k ≤ xss.length → ∀ j, j < k → row (partS xss k) j = row xss j
  | 0, _, j, hj => by omega
  | k + 1, hk, j, hj => by
    unfold partS
    by_cases e : k = j
    · subst e; rw [row_set (by rw [partS_len]; omega)]
    · rw [row_set_ne e]; exact partS_row xss k (by omega) j (by omega)
theorem partS_all (xss : List (List Int)) : partS xss xss.length = xss := by
  refine List.ext_getElem (partS_len _ _) fun j h1 h2 => ?_
  rw [← row_get h1, ← row_get h2]; exact partS_row xss _ (Nat.le_refl _) j h2
theorem partS_rest (xss : List (List Int)) : ∀ k j, k ≤ j → row (partS xss k) j = []
  | 0, j, _ => by
    by_cases h : j < xss.length
    · rw [row_get (by rw [partS_len]; exact h)]; simp [partS]
    · exact row_out (by rw [partS_len]; omega)
  | k + 1, j, h => by
    unfold partS; rw [row_set_ne (by omega)]; exact partS_rest xss k j (by omega)
theorem val_rep (n j : Nat) : val (List.replicate n (.slice none 0 0)) j = .slice none 0 0 := by
  by_cases h : j < n
  · rw [val_get (by simpa using h)]; simp
  · unfold val; rw [List.getD_eq_getElem?_getD, List.getElem?_eq_none (by simp; omega)]; rfl
/-- A talk on a relation in memory of its own. -/
structure OwnW (w : World) (lo hi : Nat) (sv tv : Value) (ss ts : List Int) : Prop where
  s : Own w lo sv ss
  t : Own w lo tv ts
  apart : ∀ k, sv.ownBlock = some k → tv.ownBlock = some k → False
  his : ∀ k, sv.ownBlock = some k → k < hi
  hit : ∀ k, tv.ownBlock = some k → k < hi
theorem OwnW.on {w w' : World} {lo hi : Nat} {sv tv : Value} {ss ts : List Int} (h : OwnW w lo hi sv tv ss ts) (hb : Below w.heap.size w w') : OwnW w' lo hi sv tv ss ts :=
  ⟨own_below h.s hb, own_below h.t hb, h.apart, h.his, h.hit⟩

end Go.Proofs.Ytiinifcepcaonaa
