/- Boxes: blocks that hold a struct; lists that came in; laws.toIntS, toIntSS, toClaim, toWords. -/
import Derived.Test.YtopjlbihhbjhnaaDoorRd
import Derived.Laws.ResultCell
namespace Go.Proofs.YtopjlbihhbjhnaaDoor
open Go.RowKit

theorem below_of_drew {w w' : World} {m : Nat} (h : w' = w.drewN m) : Below w.heap.size w w' := by rw [h]; exact below_drewN (Below.refl _ _) m
/-- Block N holds the cells cs. -/
def Box (w : World) (N : Nat) (cs : List Value) : Prop := ∃ T, w.heap[N]? = some (.cells cs.toArray T (0, 0))
theorem Box.lt {w : World} {N : Nat} {cs : List Value} (h : Box w N cs) : N < w.heap.size := by
  obtain ⟨T, h⟩ := h; exact (Array.getElem?_eq_some_iff.1 h).1
theorem Box.cell {w : World} {N : Nat} {cs : List Value} (h : Box w N cs) (j : Nat) : w.cell? ⟨N, j, none⟩ = cs[j]? := by
  obtain ⟨T, h⟩ := h; simp [World.cell?, h]
theorem Box.frozen {w : World} {N : Nat} {cs : List Value} (h : Box w N cs) (j : Nat) : w.frozen? ⟨N, j, none⟩ = false := by
  obtain ⟨T, h⟩ := h; simp [World.frozen?, h]
theorem Box.on {w w' : World} {N : Nat} {cs : List Value} (h : Box w N cs) (hb : Below w.heap.size w w') : Box w' N cs := by
  have hl := h.lt
  obtain ⟨T, h⟩ := h
  exact ⟨T, by rw [hb.block N hl]; exact h⟩
theorem Box.low {w w' : World} {N B : Nat} {cs : List Value} (h : Box w N cs) (hb : Below B w w') (hN : N < B) : Box w' N cs := by
  obtain ⟨T, h⟩ := h
  exact ⟨T, by rw [hb.block N hN]; exact h⟩
theorem Box.made (w : World) (cs : List Value) (T : TypeId) : Box (w.alloc (.cells cs.toArray T)) w.heap.size cs := ⟨T, by show (w.heap.push _)[w.heap.size]? = _; simp⟩
theorem Box.alloc {w : World} {N : Nat} {cs : List Value} (h : Box w N cs) (o : Obj) : Box (w.alloc o) N cs := by
  have hl := h.lt
  obtain ⟨T, h⟩ := h
  exact ⟨T, by rw [Below.heap_alloc w o N hl]; exact h⟩
theorem Box.set {w : World} {N : Nat} {cs : List Value} (h : Box w N cs) (j : Nat) (v : Value) : Box (w.setCell ⟨N, j, none⟩ v) N (cs.set j v) := by
  obtain ⟨T, h⟩ := h
  exact ⟨T, by simp [World.setCell, Array.getElem?_modify, h]⟩
theorem Box.far {w : World} {N M j : Nat} {cs : List Value} (h : Box w N cs) (hne : N ≠ M) (v : Value) : Box (w.setCell ⟨M, j, none⟩ v) N cs := by
  obtain ⟨T, h⟩ := h
  exact ⟨T, by rw [Below.heap_setCell _ _ _ _ hne]; exact h⟩
theorem below_grow (w : World) (o : Obj) : Below w.heap.size w (w.alloc o) := (Below.refl _ _).alloc (Nat.le_refl _) _
theorem Box.drewN {w : World} {N m : Nat} {cs : List Value} (h : Box w N cs) : Box (w.drewN m) N cs := h

theorem boxes1 {w w1 : World} {P : List Value} {T1 : TypeId} (hb : Below (w.alloc (.cells P.toArray T1)).heap.size (w.alloc (.cells P.toArray T1)) w1) : Box w1 w.heap.size P ∧ Below w.heap.size w w1 :=
  ⟨(Box.made w P T1).on hb, (below_grow w _).trans (hb.mono (by simp))⟩
theorem boxes2 {w w1 : World} {P R : List Value} {T1 T2 : TypeId} (hb : Below ((w.alloc (.cells P.toArray T1)).alloc (.cells R.toArray T2)).heap.size ((w.alloc (.cells P.toArray T1)).alloc (.cells R.toArray T2)) w1) :
    Box w1 w.heap.size P ∧ Box w1 (w.heap.size + 1) R ∧ Below w.heap.size w w1 := by
  have h1 := Box.made w P T1
  have h2 := Box.made (w.alloc (.cells P.toArray T1)) R T2
  rw [show (w.alloc (.cells P.toArray T1)).heap.size = w.heap.size + 1 by simp] at h2
  exact ⟨(h1.alloc _).on hb, h2.on hb, ((below_grow w _).trans ((below_grow _ _).mono (by simp))).trans (hb.mono (by simp; omega))⟩
theorem boxes3 {w w1 : World} {P R O : List Value} {T1 T2 T3 : TypeId} (hb : Below (((w.alloc (.cells P.toArray T1)).alloc (.cells R.toArray T2)).alloc (.cells O.toArray T3)).heap.size (((w.alloc (.cells P.toArray T1)).alloc (.cells R.toArray T2)).alloc (.cells O.toArray T3)) w1) :
    Box w1 w.heap.size P ∧ Box w1 (w.heap.size + 1) R ∧ Box w1 (w.heap.size + 1 + 1) O ∧ Below w.heap.size w w1 := by
  have h1 := Box.made w P T1
  have h2 := Box.made (w.alloc (.cells P.toArray T1)) R T2
  have h3 := Box.made ((w.alloc (.cells P.toArray T1)).alloc (.cells R.toArray T2)) O T3
  rw [show (w.alloc (.cells P.toArray T1)).heap.size = w.heap.size + 1 by simp] at h2
  rw [show ((w.alloc (.cells P.toArray T1)).alloc (.cells R.toArray T2)).heap.size = w.heap.size + 1 + 1 by simp] at h3
  exact ⟨((h1.alloc _).alloc _).on hb, (h2.alloc _).on hb, h3.on hb, (((below_grow w _).trans ((below_grow _ _).mono (by simp))).trans ((below_grow _ _).mono (by simp; omega))).trans (hb.mono (by simp; omega))⟩

/-- A world behind the one in which a box was made at the head of a function; the box is as it was. -/
def InB (w : World) (P : List Value) (T : TypeId) (w1 : World) : Prop := Below (w.heap.size + 1) (w.alloc (.cells P.toArray T)) w1
theorem InB.start (w : World) (P : List Value) (T : TypeId) : InB w P T (w.alloc (.cells P.toArray T)) := Below.refl _ _
theorem InB.of {w w1 : World} {P : List Value} {T : TypeId} (hb : Below (w.alloc (.cells P.toArray T)).heap.size (w.alloc (.cells P.toArray T)) w1) : InB w P T w1 := hb.mono (by simp)
theorem InB.size {w w1 : World} {P : List Value} {T : TypeId} (h : InB w P T w1) : w.heap.size + 1 ≤ w1.heap.size := by have := Below.size h; simpa using this
theorem InB.on {w w1 w2 : World} {P : List Value} {T : TypeId} (h : InB w P T w1) (hb : Below w1.heap.size w1 w2) : InB w P T w2 := Below.trans h (hb.mono h.size)
theorem InB.box {w w1 : World} {P : List Value} {T : TypeId} (h : InB w P T w1) : Box w1 w.heap.size P := by
  obtain ⟨T', hT⟩ := Box.made w P T
  exact ⟨T', by rw [Below.block h w.heap.size (Nat.lt_succ_self _)]; exact hT⟩
theorem InB.fin {w w1 : World} {P : List Value} {T : TypeId} (h : InB w P T w1) : Below w.heap.size w w1 := (below_grow w _).trans (Below.mono h (Nat.le_succ _))
theorem InB.grown {w w1 w2 : World} {P : List Value} {T : TypeId} {r : Option Nat} (h : InB w P T w1) (hg : w1.grownBy w2 r) (hr : ∀ k, r = some k → w.heap.size + 1 ≤ k) : InB w P T w2 := Below.grown h hg h.size hr

/-- A list of numbers that came in, at whatever address. -/
structure ArgI (w : World) (a : Option Addr) (xs : List Int) : Prop where
  get : ∀ j, j < xs.length → ∃ ad, a = some ad ∧ w.cell? (ad.add j) = some (.int .i64 (nth xs j))
theorem add_block (ad : Addr) (j : Nat) : (ad.add j).block = ad.block := by unfold Addr.add; split <;> rfl
theorem ArgI.on {w w' : World} {a : Option Addr} {xs : List Int} (h : ArgI w a xs) (hb : Below w.heap.size w w') : ArgI w' a xs :=
  ⟨fun j hj => by
    obtain ⟨ad, e, hc⟩ := h.get j hj
    exact ⟨ad, e, (hb.cell (p := ad.add j) (World.block_lt_of_cell? _ _ hc)).trans hc⟩⟩
structure ArgSS (w : World) (a : Option Addr) (xss : List (List Int)) : Prop where
  get : ∀ j, j < xss.length → ∃ ad A c, a = some ad ∧ w.cell? (ad.add j) = some (.slice A (row xss j).length c) ∧ ArgI w A (row xss j)
theorem ArgSS.on {w w' : World} {a : Option Addr} {xss : List (List Int)} (h : ArgSS w a xss) (hb : Below w.heap.size w w') : ArgSS w' a xss :=
  ⟨fun j hj => by
    obtain ⟨ad, A, c, e, hc, hi⟩ := h.get j hj
    exact ⟨ad, A, c, e, (hb.cell (p := ad.add j) (World.block_lt_of_cell? _ _ hc)).trans hc, hi.on hb⟩⟩

theorem Own.form {w : World} {B : Nat} {v : Value} {xs : List Int} (h : Own w B v xs) : ∃ a c, v = .slice a xs.length c := by
  rcases id h.2 with ⟨rfl, h0⟩ | ⟨g, cap, cur, rfl, _⟩
  · exact ⟨none, 0, by rw [h0]⟩
  · exact ⟨_, _, rfl⟩
/-- A number written into an owned list. -/
theorem Own.set {w : World} {B g n cap k : Nat} {xs : List Int} (h : Own w B (.slice (some ⟨g, 0, none⟩) n cap) xs) (hn : xs.length = n) (hk : k < n) (y : Int) :
    (w.frozen? ⟨g, k, none⟩ = false ∧ w.cell? ⟨g, k, none⟩ = some (.int .i64 (nth xs k))) ∧ Own (w.setCell ⟨g, k, none⟩ (.int .i64 y)) B (.slice (some ⟨g, 0, none⟩) n cap) (xs.set k y) ∧ w.grownBy (w.setCell ⟨g, k, none⟩ (.int .i64 y)) (some g) := by
  subst hn
  have hst := World.ownsRow.stored h k (.int .i64 y)
  refine ⟨⟨World.ownsRow.frozenAt h k, ?_⟩, ?_, hst.2⟩
  · rw [World.ownsRow.cellAt h k (by omega), List.getElem?_map, List.getElem?_eq_getElem hk, nth_get hk]; rfl
  · have := hst.1
    unfold Own
    rw [List.length_set, List.map_set]; exact this
def copyTo (xs : List Int) : Nat → List Int
  | 0 => List.replicate xs.length 0
  | k + 1 => (copyTo xs k).set k (nth xs k)
theorem copyTo_len (xs : List Int) : ∀ k, (copyTo xs k).length = xs.length
  | 0 => by simp [copyTo]
  | k + 1 => by unfold copyTo; rw [List.length_set]; exact copyTo_len xs k
theorem copyTo_nth (xs : List Int) : ∀ k, k ≤ xs.length → ∀ j, j < k → nth (copyTo xs k) j = nth xs j
  | 0, _, j, hj => by omega
  | k + 1, hk, j, hj => by
    have hl : k < (copyTo xs k).length := by rw [copyTo_len]; omega
    unfold copyTo
    by_cases e : k = j
    · subst e; unfold nth; rw [List.getD_eq_getElem?_getD, List.getElem?_set_self hl]; rfl
    · rw [← copyTo_nth xs k (by omega) j (by omega)]
      unfold nth; rw [List.getD_eq_getElem?_getD, List.getElem?_set_ne e, ← List.getD_eq_getElem?_getD]
theorem copyTo_all (xs : List Int) : copyTo xs xs.length = xs := by
  refine List.ext_getElem (copyTo_len _ _) fun j h1 h2 => ?_
  rw [← nth_get h1, ← nth_get h2]; exact copyTo_nth xs _ (Nat.le_refl _) j h2
theorem madeCells_list (z : Value) (n : Nat) : (madeCells #[z] n).toList = List.replicate n z := by
  unfold madeCells; simp [Nat.mod_one]; rw [List.map_const', List.length_range]

theorem own_make (w : World) (n : Nat) (hn : n ≤ 1048576) : Own (w.alloc (.cells (madeCells #[.int .i64 0] n) 3)) w.heap.size (.slice (some ⟨w.heap.size, 0, none⟩) n n) (List.replicate n 0) := by
  have hs : (madeCells #[Value.int .i64 0] n).size = n := by rw [← Array.length_toList, madeCells_list]; simp
  have h := World.ownsRow_lit (base := w.heap.size) (e := 3) (size := 1) w (madeCells #[.int .i64 0] n) n (Nat.le_refl _) (by unfold maxLen; omega) (by omega)
  unfold Own
  rw [madeCells_list] at h
  simpa using h

set_option maxHeartbeats 1600000 in
theorem toI_any (a : Option Addr) (c : Nat) (xs : List Int) (w : World) (h : ArgI w a xs) (hl : xs.length ≤ 1048576) : Calls Tryd.prog 22 #[.slice a xs.length c] w fun e w' => ∃ v, e = .returned v ∧ Own w' w.heap.size v xs ∧ Below w.heap.size w w' := by
  obtain ⟨n, hn⟩ : ∃ n, xs.length = n := ⟨_, rfl⟩
  have hmk := run_make_row' (P := Tryd.prog) 30 3 (.int .i64 0) 8 Tryd.underlying30 infoInt rfl .i64 .i64 n (by omega) (by omega)
  have O0 := Lib.hid (show Own (w.alloc (.cells (madeCells #[.int .i64 0] n) 3)) w.heap.size (.slice (some ⟨w.heap.size, 0, none⟩) n n) (copyTo xs 0) from (by
    unfold copyTo; rw [hn]; exact own_make w n (by omega)))
  have HA := Lib.hid (fun w' (hb : Below w.heap.size w w') k (hk : k < n) => (h.on hb).get k (by rw [hn]; exact hk))
  have HL := Lib.hid (fun k => (copyTo_len xs k).trans hn)
  have HF : Hid (copyTo xs n = xs) := Lib.hid (by rw [← hn]; exact copyTo_all xs)
  have HS := Lib.hid (show ∀ k, copyTo xs (k + 1) = (copyTo xs k).set k (nth xs k) from fun _ => rfl)
  rw [hn] at hl ⊢
  clear h hn
  go_enter Tryd.func22, Tryd.ntmps22
  go_wp2
  go_loopw [4] (fun i wr => ∃ k : Nat, k ≤ n ∧ i = .int .i64 k ∧ Hid (Own wr w.heap.size (.slice (some ⟨w.heap.size, 0, none⟩) n n) (copyTo xs k)) ∧ Hid (Below w.heap.size w wr)) (fun i _ => n - (intOf i).toNat)
  case atStart => exact ⟨0, by omega, rfl, O0, Lib.hid ((Below.refl _ _).alloc (Nat.le_refl _) _)⟩
  case round =>
    obtain ⟨k, hk, rfl, ho, hb⟩ := hrel
    by_cases hlt : k < n
    · obtain ⟨ad, rfl, hc⟩ := HA.out _ hb.out k hlt
      obtain ⟨⟨f0, c0⟩, o1, g1⟩ := ho.out.set (HL.out k) hlt (nth xs k)
      have O1 := Lib.hid o1
      have B1 := Lib.hid (hb.out.grown g1 hb.out.size (fun j hj => by cases hj; exact Nat.le_refl _))
      clear o1 g1 ho hb O0
      go_wp2
      go_roundw
      case rel => exact ⟨k + 1, by omega, by go_num, by rw [HS.out]; exact O1, B1⟩
      case measure => simp [intOf]; omega
    · obtain rfl : k = n := by omega
      have O1 : Hid (Own wr w.heap.size (.slice (some ⟨w.heap.size, 0, none⟩) k k) xs) := Lib.hid (by have := ho.out; rwa [HF.out] at this)
      clear ho
      go_wp2
      go_ret
      exact ⟨_, rfl, O1.out, hb.out⟩
end Go.Proofs.YtopjlbihhbjhnaaDoor
