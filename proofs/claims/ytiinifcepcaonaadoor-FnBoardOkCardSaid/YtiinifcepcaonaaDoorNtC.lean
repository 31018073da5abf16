/- laws: notes and boards copied, compared, marked, held. -/
import Derived.Test.YtiinifcepcaonaaDoorNtl
import Derived.Test.YtiinifcepcaonaaDoorBMark
import Derived.Test.YtiinifcepcaonaaDoorBTalk
import Derived.Test.YtiinifcepcaonaaDoorBWalk
import Derived.Deep.OwnRows
import Derived.Deep.Slices
import Derived.Deep.Cut
namespace Go.Proofs.YtiinifcepcaonaaDoor
open Go.RowKit

/-- A list of notes that came in, at whatever address. -/
structure ArgN (w : World) (a : Option Addr) (ns : List Nt) : Prop where
  get : ∀ j, j < ns.length → ∃ ad, a = some ad ∧ w.cell? (ad.add (j * 5)) = some (.int .i64 (nthN ns j).key) ∧ w.cell? (ad.add (j * 5 + 1)) = some (.int .i64 (nthN ns j).on) ∧ w.cell? (ad.add (j * 5 + 2)) = some (.int .i64 (nthN ns j).say) ∧ w.cell? (ad.add (j * 5 + 3)) = some (.int .i64 (nthN ns j).ask) ∧ w.cell? (ad.add (j * 5 + 4)) = some (.int .i64 (nthN ns j).tell)
theorem ArgN.on {w w' : World} {a : Option Addr} {ns : List Nt} (h : ArgN w a ns) (hb : Below w.heap.size w w') : ArgN w' a ns :=
  ⟨fun j hj => by
    obtain ⟨ad, e, h0, h1, h2, h3, h4⟩ := h.get j hj
    exact ⟨ad, e, (hb.cell (World.block_lt_of_cell? _ _ h0)).trans h0, (hb.cell (World.block_lt_of_cell? _ _ h1)).trans h1, (hb.cell (World.block_lt_of_cell? _ _ h2)).trans h2, (hb.cell (World.block_lt_of_cell? _ _ h3)).trans h3, (hb.cell (World.block_lt_of_cell? _ _ h4)).trans h4⟩⟩
def szN (n : Nat) (left : Int) : Int := if left - n < 0 then -1 else left - n
theorem szN_cases (n : Nat) (left : Int) : (szN n left = -1 ∧ left < n) ∨ (szN n left = left - n ∧ (n : Int) ≤ left) := by
  unfold szN
  by_cases h : left - n < 0
  · rw [if_pos h]; exact .inl ⟨rfl, by omega⟩
  · rw [if_neg h]; exact .inr ⟨rfl, by omega⟩
theorem sznt_any (a : Option Addr) (n c : Nat) (left : Int) (w : World) (hn : n ≤ maxLen) (h0 : 0 ≤ left) (h1 : left ≤ 1048576) : Calls Tryd.prog 36 #[.slice a n c, .int .i64 left] w fun e w' => e = .returned (.int .i64 (szN n left)) ∧ w = w' := by
  unfold maxLen at hn
  by_cases h : left - n < 0
  · have HX := Lib.hid (show szN n left = -1 by unfold szN; rw [if_pos h])
    go_enter Tryd.func36, Tryd.ntmps36
    go_wp2
    go_ret
    exact ⟨ret_int HX.out.symm, rfl⟩
  · have HX := Lib.hid (show szN n left = left - n by unfold szN; rw [if_neg h])
    go_enter Tryd.func36, Tryd.ntmps36
    go_wp2
    go_ret
    exact ⟨ret_int HX.out.symm, rfl⟩
theorem szbd_any (p : Int) (a : Option Addr) (n c : Nat) (left : Int) (w : World) (hn : n ≤ maxLen) (h0 : 0 ≤ left) (h1 : left ≤ 1048576) :
    Calls Tryd.prog 10 #[.agg #[.int .i64 p, .slice a n c], .int .i64 left] w fun e w' => ∃ r, e = .returned (.int .i64 r) ∧ Below w.heap.size w w' ∧ (r = -1 ∨ (0 ≤ r ∧ r ≤ left ∧ n ≤ 1048576)) := by
  go_enter Tryd.func10, Tryd.ntmps10
  go_wp2_with fail
  refine (sznt_any a n c left _ hn h0 h1).mono ?_
  rintro e w1 ⟨rfl, rfl⟩
  rcases szN_cases n left with ⟨e1, e2⟩ | ⟨e1, e2⟩
  · rw [e1]
    go_wp2
    go_ret
    exact ⟨_, rfl, below_grow _ _, .inl rfl⟩
  · rw [e1]
    clear e1
    go_wp2
    go_ret
    exact ⟨_, rfl, below_grow _ _, .inr ⟨by omega, by omega, by omega⟩⟩

theorem totk_any (s a t : Int) (w : World) : Calls Tryd.prog 79 #[.agg #[.int .i64 s, .int .i64 a, .int .i64 t]] w fun e w' => e = .returned (.agg #[.int .i64 s, .int .i64 a, .int .i64 t]) ∧ Below w.heap.size w w' := by
  go_enter Tryd.func79, Tryd.ntmps79
  go_wp2
  refine bodyPost_ret (v := .agg #[.int .i64 s, .int .i64 a, .int .i64 t]) ?_ rfl ⟨rfl, ?_⟩
  · simp [results, Tryd.results79, go_sem]
  · repeat (first | exact Below.refl _ _ | refine Below.alloc ?_ (by simp <;> omega) _ | refine Below.setCell ?_ (by simp <;> omega) _)
set_option maxHeartbeats 1600000 in
theorem tont_any (x : Nt) (w : World) : Calls Tryd.prog 60 #[.agg #[.int .i64 x.key, .int .i64 x.on, .int .i64 x.say, .int .i64 x.ask, .int .i64 x.tell]] w fun e w' => e = .returned (.agg #[.int .i64 x.key, .int .i64 x.on, .int .i64 x.say, .int .i64 x.ask, .int .i64 x.tell]) ∧ Below w.heap.size w w' := by
  have W3 := bx3 (w := w) [.int .i64 x.key, .int .i64 x.on, .int .i64 x.say, .int .i64 x.ask, .int .i64 x.tell] [.int .i64 0, .int .i64 0, .int .i64 0, .int .i64 0, .int .i64 0] [.int .i64 x.key, .int .i64 x.on, .int .i64 0, .int .i64 0, .int .i64 0] 80 47 47
  obtain ⟨W, hWe, hWs, hW, b0, b1, b2⟩ := W3.out
  have HW := Lib.hid hW
  have HS := Lib.hid hWs
  have HWE := Lib.hid hWe
  have BR := Lib.hid b1
  have BO := Lib.hid b2
  clear W3 hWe hWs hW b0 b1 b2
  go_enter Tryd.func60, Tryd.ntmps60
  go_wp2_with fail
  rw [← HWE.out]
  refine (totk_any _ _ _ _).mono ?_
  rintro e w1 ⟨rfl, hb⟩
  have r0 := (BR.out.on hb).cell 0
  have r1 := (BR.out.on hb).cell 1
  have r2 := (BR.out.on hb).cell 2
  have r3 := (BR.out.on hb).cell 3
  have r4 := (BR.out.on hb).cell 4
  have f0 := (BR.out.on hb).frozen 0
  have f1 := (BR.out.on hb).frozen 1
  have f2 := (BR.out.on hb).frozen 2
  have f3 := (BR.out.on hb).frozen 3
  have f4 := (BR.out.on hb).frozen 4
  have c0 := (BO.out.on hb).cell 0
  have c1 := (BO.out.on hb).cell 1
  have c2 := (BO.out.on hb).cell 2
  have c3 := (BO.out.on hb).cell 3
  have c4 := (BO.out.on hb).cell 4
  have g2 := (BO.out.on hb).frozen 2
  have g3 := (BO.out.on hb).frozen 3
  have g4 := (BO.out.on hb).frozen 4
  simp at r0 r1 r2 r3 r4 c0 c1 c2 c3 c4
  have BL := Lib.hid (HW.out.trans (hb.mono HW.out.size))
  clear hb
  go_wp2
  refine bodyPost_ret (v := .agg #[.int .i64 x.key, .int .i64 x.on, .int .i64 x.say, .int .i64 x.ask, .int .i64 x.tell]) ?_ rfl ⟨rfl, ?_⟩
  · simp [results, Tryd.results60, go_sem, r0, r1, r2, r3, r4]
  · exact ((((((((BL.out.setCell (by show w.heap.size ≤ w.heap.size + 1 + 1; omega) _).setCell (by show w.heap.size ≤ w.heap.size + 1 + 1; omega) _).setCell (by show w.heap.size ≤ w.heap.size + 1 + 1; omega) _).setCell (by show w.heap.size ≤ w.heap.size + 1; omega) _).setCell (by show w.heap.size ≤ w.heap.size + 1; omega) _).setCell (by show w.heap.size ≤ w.heap.size + 1; omega) _).setCell (by show w.heap.size ≤ w.heap.size + 1; omega) _).setCell (by show w.heap.size ≤ w.heap.size + 1; omega) _)

theorem add_pos (a : Addr) {i : Nat} (h : i ≠ 0) : a.add i = ⟨a.block, a.off + i, none⟩ := by unfold Addr.add; rw [if_neg h]
def zerN : Nt := ⟨0, 0, 0, 0, 0⟩
def copyN (ns : List Nt) : Nat → List Nt
  | 0 => List.replicate ns.length zerN
  | k + 1 => (copyN ns k).set k (nthN ns k)
theorem copyN_len (ns : List Nt) : ∀ k, (copyN ns k).length = ns.length
  | 0 => by simp [copyN]
  | k + 1 => by unfold copyN; rw [List.length_set]; exact copyN_len ns k
theorem copyN_nth (ns : List Nt) : ∀ k, k ≤ ns.length → ∀ j, j < k → nthN (copyN ns k) j = nthN ns j
  | 0, _, j, hj => by omega
  | k + 1, hk, j, hj => by
    have hl : k < (copyN ns k).length := by rw [copyN_len]; omega
    unfold copyN
    by_cases e : k = j
    · subst e; unfold nthN; rw [List.getD_eq_getElem?_getD, List.getElem?_set_self hl]; rfl
    · rw [← copyN_nth ns k (by omega) j (by omega)]
      unfold nthN; rw [List.getD_eq_getElem?_getD, List.getElem?_set_ne e, ← List.getD_eq_getElem?_getD]
theorem copyN_all (ns : List Nt) : copyN ns ns.length = ns := by
  refine List.ext_getElem (copyN_len _ _) fun j h1 h2 => ?_
  rw [← nthN_get h1, ← nthN_get h2]; exact copyN_nth ns _ (Nat.le_refl _) j h2
theorem setN_flat (x : Nt) : ∀ (d : List Nt) (i : Nat), i < d.length →
    ((((((d.flatMap encN).set (i * 5) (.int .i64 x.key)).set (i * 5 + 1) (.int .i64 x.on)).set (i * 5 + 2) (.int .i64 x.say)).set (i * 5 + 3) (.int .i64 x.ask)).set (i * 5 + 4) (.int .i64 x.tell)) = (d.set i x).flatMap encN
  | [], _, h => by simp at h
  | y :: d, 0, _ => by simp [encN]
  | y :: d, i + 1, h => by
    have ih := setN_flat x d i (by simpa using h)
    rw [List.set_cons_succ, List.flatMap_cons, List.flatMap_cons, ← ih]
    have e : ∀ (m : Nat) (l : List Value) (v : Value), (encN y ++ l).set (m + 5) v = encN y ++ l.set m v := fun m l v => by
      rw [List.set_append_right _ _ (by simp [encN])]; simp [encN]
    rw [show (i + 1) * 5 = i * 5 + 5 by omega, show i * 5 + 5 + 1 = i * 5 + 1 + 5 by omega, show i * 5 + 5 + 2 = i * 5 + 2 + 5 by omega, show i * 5 + 5 + 3 = i * 5 + 3 + 5 by omega, show i * 5 + 5 + 4 = i * 5 + 4 + 5 by omega, e, e, e, e, e]
/-- A note stored into the list. -/
def putN (w : World) (g i : Nat) (x : Nt) : World := ((((w.setCell ⟨g, i * 5, none⟩ (.int .i64 x.key)).setCell ⟨g, i * 5 + 1, none⟩ (.int .i64 x.on)).setCell ⟨g, i * 5 + 2, none⟩ (.int .i64 x.say)).setCell ⟨g, i * 5 + 3, none⟩ (.int .i64 x.ask)).setCell ⟨g, i * 5 + 4, none⟩ (.int .i64 x.tell)
theorem OwnN.set {w : World} {B g n cap : Nat} {d : List Nt} (h : OwnN w B (.slice (some ⟨g, 0, none⟩) n cap) d) (hn : d.length = n) {i : Nat} (hi : i < n) (x : Nt) :
    OwnN (putN w g i x) B (.slice (some ⟨g, 0, none⟩) n cap) (d.set i x) ∧ w.grownBy (putN w g i x) (some g) := by
  subst hn
  have h0 := h.stored (i * 5) (.int .i64 x.key)
  have h1 := h0.1.stored (i * 5 + 1) (.int .i64 x.on)
  have h2 := h1.1.stored (i * 5 + 2) (.int .i64 x.say)
  have h3 := h2.1.stored (i * 5 + 3) (.int .i64 x.ask)
  have h4 := h3.1.stored (i * 5 + 4) (.int .i64 x.tell)
  have gg : ∀ {a b c : World}, a.grownBy b (some g) → b.grownBy c (some g) → a.grownBy c (some g) := fun h k => ⟨k.os.trans h.os, k.tape.trans h.tape, k.output.trans h.output, Nat.le_trans h.size k.size, fun i hi hr => (k.block i (Nat.lt_of_lt_of_le hi h.size) hr).trans (h.block i hi hr)⟩
  refine ⟨?_, gg (gg (gg (gg h0.2 h1.2) h2.2) h3.2) h4.2⟩
  unfold OwnN putN
  rw [List.length_set, ← setN_flat x d i hi]
  exact h4.1
theorem OwnN.old {w : World} {B g n cap : Nat} {d : List Nt} (h : OwnN w B (.slice (some ⟨g, 0, none⟩) n cap) d) (hn : d.length = n) {i : Nat} (hi : i < n) :
    (∀ j, w.frozen? ⟨g, j, none⟩ = false) ∧ NtAt w g i (nthN d i) := by
  subst hn
  have c : ∀ j, j < 5 → w.cell? ⟨g, i * 5 + j, none⟩ = some ((encN (nthN d i))[j]!) := fun j hj => by
    rw [h.cellAt (i * 5 + j) (by omega), flatN_get d (i * 5 + j) (by omega), show (i * 5 + j) / 5 = i by omega, show (i * 5 + j) % 5 = j by omega]
  exact ⟨fun j => h.frozenAt j, ⟨c 0 (by omega), c 1 (by omega), c 2 (by omega), c 3 (by omega), c 4 (by omega)⟩⟩
theorem madeN_list (n : Nat) : (madeCells #[.int .i64 0, .int .i64 0, .int .i64 0, .int .i64 0, .int .i64 0] (n * 5)).toList = (List.replicate n zerN).flatMap encN := by
  have hz : ∀ i, (#[Value.int .i64 0, .int .i64 0, .int .i64 0, .int .i64 0, .int .i64 0])[i % 5]! = Value.int .i64 0 := fun i => by
    have : i % 5 < 5 := Nat.mod_lt _ (by omega)
    match i % 5, this with
    | 0, _ => rfl
    | 1, _ => rfl
    | 2, _ => rfl
    | 3, _ => rfl
    | 4, _ => rfl
  refine List.ext_getElem? fun i => ?_
  by_cases hi : i < n * 5
  · rw [flatN_get _ i (by simpa using hi)]
    have e : nthN (List.replicate n zerN) (i / 5) = zerN := by
      rw [nthN_get (by simp; omega)]; simp
    rw [e]
    unfold madeCells
    simp only [List.size_toArray, List.length_cons, List.length_nil, Array.toList_map, Array.toList_range, List.getElem?_map, List.getElem?_range hi, Option.map_some]
    congr 1
    have := hz i
    rw [this]
    have h5 : i % 5 < 5 := Nat.mod_lt _ (by omega)
    match i % 5, h5 with
    | 0, _ => rfl
    | 1, _ => rfl
    | 2, _ => rfl
    | 3, _ => rfl
    | 4, _ => rfl
  · rw [List.getElem?_eq_none (by rw [Array.length_toList, size_madeCells]; omega), List.getElem?_eq_none (by rw [flatN_len]; simp; omega)]
theorem ownN_make (w : World) (n : Nat) (hn : n ≤ 1048576) : OwnN (w.alloc (.cells (madeCells #[.int .i64 0, .int .i64 0, .int .i64 0, .int .i64 0, .int .i64 0] (n * 5)) 47)) w.heap.size (.slice (some ⟨w.heap.size, 0, none⟩) n n) (List.replicate n zerN) := by
  have h := World.ownsRow_lit (base := w.heap.size) (e := 47) (size := 5) w (madeCells #[.int .i64 0, .int .i64 0, .int .i64 0, .int .i64 0, .int .i64 0] (n * 5)) n (Nat.le_refl _) (by unfold maxLen; omega) (size_madeCells _ _)
  unfold OwnN
  rw [madeN_list] at h
  rw [List.length_replicate]
  exact h
theorem run_makeN (w : World) (n : Nat) (hn : n ≤ 1048576) : (Instr.makeSlice 27 (.int .i64 (n : Int)) (.int .i64 (n : Int))).run Tryd.prog w = .ok (.slice (some ⟨w.heap.size, 0, none⟩) n n) (w.alloc (.cells (madeCells #[.int .i64 0, .int .i64 0, .int .i64 0, .int .i64 0, .int .i64 0] (n * 5)) 47)) := by
  obtain ⟨i0, hi, hz0, hz1, hz2⟩ := info_parts infoNote
  have hr := run_make (P := Tryd.prog) w 27 47 i0 _ Tryd.underlying27 hi hz0 .i64 .i64 n n (by omega) (Int.le_refl _) (by rw [hz2]; omega) (by omega)
  simp only [Int.toNat_natCast, hz1] at hr
  exact hr

set_option maxRecDepth 20000 in
set_option maxHeartbeats 1600000 in
theorem tonts_any (a : Option Addr) (c : Nat) (ns : List Nt) (w : World) (h : ArgN w a ns) (hl : ns.length ≤ 1048576) : Calls Tryd.prog 39 #[.slice a ns.length c] w fun e w' => ∃ v, e = .returned v ∧ OwnN w' w.heap.size v ns ∧ Below w.heap.size w w' := by
  obtain ⟨n, hn⟩ : ∃ n, ns.length = n := ⟨_, rfl⟩
  have hmk := fun w => run_makeN w n (by omega)
  have O0 := Lib.hid (show OwnN (w.alloc (.cells (madeCells #[.int .i64 0, .int .i64 0, .int .i64 0, .int .i64 0, .int .i64 0] (n * 5)) 47)) w.heap.size (.slice (some ⟨w.heap.size, 0, none⟩) n n) (copyN ns 0) from (by
    unfold copyN; rw [hn]; exact ownN_make w n (by omega)))
  have HA := Lib.hid (fun w' (hb : Below w.heap.size w w') k (hk : k < n) => (h.on hb).get k (by rw [hn]; exact hk))
  have HL := Lib.hid (fun k => (copyN_len ns k).trans hn)
  have HF : Hid (copyN ns n = ns) := Lib.hid (by rw [← hn]; exact copyN_all ns)
  have HS := Lib.hid (show ∀ k, copyN ns (k + 1) = (copyN ns k).set k (nthN ns k) from fun _ => rfl)
  rw [hn] at hl ⊢
  clear h hn
  go_enter Tryd.func39, Tryd.ntmps39
  go_wp2
  go_loopw [4] (fun i wr => ∃ k : Nat, k ≤ n ∧ i = .int .i64 k ∧ Hid (OwnN wr w.heap.size (.slice (some ⟨w.heap.size, 0, none⟩) n n) (copyN ns k)) ∧ Hid (Below w.heap.size w wr)) (fun i _ => n - (intOf i).toNat)
  case atStart => exact ⟨0, by omega, rfl, O0, Lib.hid ((Below.refl _ _).alloc (Nat.le_refl _) _)⟩
  case round =>
    obtain ⟨k, hk, rfl, ho, hb⟩ := hrel
    by_cases hlt : k < n
    · obtain ⟨ad, rfl, c0, c1, c2, c3, c4⟩ := HA.out _ hb.out k hlt
      have HSK := Lib.hid (HS.out k)
      generalize nthN ns k = x at c0 c1 c2 c3 c4 HSK
      have hlt1 : (k : Int) < (n : Int) := by omega
      have d1 : wr.cell? ⟨(ad.add (k * 5)).block, (ad.add (k * 5)).off + 1, none⟩ = some (.int .i64 x.on) := by rw [← add_pos (ad.add (k * 5)) (by omega : 1 ≠ 0), Go.Deep.add_add]; exact c1
      have d2 : wr.cell? ⟨(ad.add (k * 5)).block, (ad.add (k * 5)).off + 2, none⟩ = some (.int .i64 x.say) := by rw [← add_pos (ad.add (k * 5)) (by omega : 2 ≠ 0), Go.Deep.add_add]; exact c2
      have d3 : wr.cell? ⟨(ad.add (k * 5)).block, (ad.add (k * 5)).off + 3, none⟩ = some (.int .i64 x.ask) := by rw [← add_pos (ad.add (k * 5)) (by omega : 3 ≠ 0), Go.Deep.add_add]; exact c3
      have d4 : wr.cell? ⟨(ad.add (k * 5)).block, (ad.add (k * 5)).off + 4, none⟩ = some (.int .i64 x.tell) := by rw [← add_pos (ad.add (k * 5)) (by omega : 4 ≠ 0), Go.Deep.add_add]; exact c4
      go_wp2_with fail
      refine (tont_any x _).mono ?_
      rintro e w1 ⟨rfl, hb1⟩
      have O1 := row5_below ho.out hb1
      have B1 := Below.on hb.out hb1
      obtain ⟨fz, o0, o1, o2, o3, o4⟩ := OwnN.old O1 (HL.out k) hlt
      have f0 := fz (k * 5)
      have f1 := fz (k * 5 + 1)
      have f2 := fz (k * 5 + 2)
      have f3 := fz (k * 5 + 3)
      have f4 := fz (k * 5 + 4)
      obtain ⟨O2, g2⟩ := OwnN.set O1 (HL.out k) hlt x
      have O3 : Hid (OwnN (putN w1 w.heap.size k x) w.heap.size (.slice (some ⟨w.heap.size, 0, none⟩) n n) (copyN ns (k + 1))) := Lib.hid (by rw [HSK.out]; exact O2)
      have B3 := Lib.hid (B1.grown g2 B1.size (fun j hj => by cases hj; exact Nat.le_refl _))
      unfold putN at O3 B3
      clear O1 B1 O2 g2 ho hb hb1 O0 fz c0 c1 c2 c3 c4 d1 d2 d3 d4
      go_wp2
      go_roundw
      case rel => exact ⟨k + 1, by omega, by go_num, O3, B3⟩
      case measure => simp [intOf]; omega
    · obtain rfl : k = n := by omega
      have O1 : Hid (OwnN wr w.heap.size (.slice (some ⟨w.heap.size, 0, none⟩) k k) ns) := Lib.hid (by have := ho.out; rwa [HF.out] at this)
      clear ho
      go_wp2
      go_ret
      exact ⟨_, rfl, O1.out, hb.out⟩

set_option maxHeartbeats 800000 in
theorem tobd_any (p : Int) (a : Option Addr) (c : Nat) (es : List Nt) (w : World) (h : ArgN w a es) (hl : es.length ≤ 1048576) :
    Calls Tryd.prog 12 #[.agg #[.int .i64 p, .slice a es.length c]] w fun e w' => ∃ v, e = .returned (.agg #[.int .i64 p, v]) ∧ OwnN w' w.heap.size v es ∧ Below w.heap.size w w' := by
  obtain ⟨n, hn⟩ : ∃ n, es.length = n := ⟨_, rfl⟩
  have HA := Lib.hid (fun w' (hb : Below w.heap.size w w') => tonts_any a c es w' (h.on hb) hl)
  have HN := Lib.hid hn
  rw [hn] at HA ⊢
  have W3 := bx3 (w := w) [.int .i64 p, .slice a n c] [.int .i64 0, .slice none 0 0] [.int .i64 p, .slice none 0 0] 24 29 29
  obtain ⟨W, hWe, hWs, hW, b0, b1, b2⟩ := W3.out
  have HW := Lib.hid hW
  have HS := Lib.hid hWs
  have HWE := Lib.hid hWe
  have BR := Lib.hid b1
  have BO := Lib.hid b2
  clear W3 hWe hWs hW b0 b1 b2 h hl hn
  go_enter Tryd.func12, Tryd.ntmps12
  go_wp2_with fail
  refine (HA.out _ (by rw [← HWE.out]; exact HW.out)).mono ?_
  rintro e w1 ⟨v, rfl, ow, hb⟩
  rw [← HWE.out] at ow hb
  obtain ⟨va, vc, hv⟩ := OwnN.form ow
  rw [HN.out] at hv
  subst hv
  have r0 := (BR.out.on hb).cell 0
  have r1 := (BR.out.on hb).cell 1
  have f0 := (BR.out.on hb).frozen 0
  have f1 := (BR.out.on hb).frozen 1
  have c0 := (BO.out.on hb).cell 0
  have c1 := (BO.out.on hb).cell 1
  have g0 := (BO.out.on hb).frozen 0
  have g1 := (BO.out.on hb).frozen 1
  simp at r0 r1 c0 c1
  have OW := Lib.hid ow
  have BL := Lib.hid (HW.out.trans (hb.mono HW.out.size))
  clear ow hb
  go_wp2
  refine bodyPost_ret (v := .agg #[.int .i64 p, .slice va n vc]) ?_ rfl ⟨_, rfl, ?_, ?_⟩
  · simp [results, Tryd.results12, go_sem, r0, r1]
  · refine row5_lower (row5_heap OW.out fun k hk => ?_) HW.out.size
    have hk1 := (OW.out.lt k hk).1
    have hs := HS.out
    rw [Below.heap_setCell _ _ _ _ (by show k ≠ w.heap.size + 1; omega), Below.heap_setCell _ _ _ _ (by show k ≠ w.heap.size + 1; omega), Below.heap_setCell _ _ _ _ (by show k ≠ w.heap.size + 1 + 1; omega)]
  · exact ((BL.out.setCell (by show w.heap.size ≤ w.heap.size + 1 + 1; omega) _).setCell (by show w.heap.size ≤ w.heap.size + 1; omega) _).setCell (by show w.heap.size ≤ w.heap.size + 1; omega) _

theorem eqtk_refl (s a t : Int) (w : World) : Calls Tryd.prog 81 #[.agg #[.int .i64 s, .int .i64 a, .int .i64 t], .agg #[.int .i64 s, .int .i64 a, .int .i64 t]] w fun e w' => e = .returned (.bool true) ∧ Below w.heap.size w w' := by
  have HB0 := B2x.start w s a t s a t
  obtain ⟨⟨c0, c1, c2⟩, d0, d1, d2⟩ := B2x.cells HB0
  go_enter Tryd.func81, Tryd.ntmps81
  go_wp2
  go_ret
  exact ⟨rfl, B2x.fin HB0⟩
theorem eqnt_refl (x : Nt) (w : World) : Calls Tryd.prog 62 #[.agg #[.int .i64 x.key, .int .i64 x.on, .int .i64 x.say, .int .i64 x.ask, .int .i64 x.tell], .agg #[.int .i64 x.key, .int .i64 x.on, .int .i64 x.say, .int .i64 x.ask, .int .i64 x.tell]] w fun e w' => e = .returned (.bool true) ∧ Below w.heap.size w w' := by
  obtain ⟨p0, p1, pl⟩ := boxes2 (P := [.int .i64 x.key, .int .i64 x.on, .int .i64 x.say, .int .i64 x.ask, .int .i64 x.tell]) (R := [.int .i64 x.key, .int .i64 x.on, .int .i64 x.say, .int .i64 x.ask, .int .i64 x.tell]) (Below.refl ((w.alloc (.cells #[.int .i64 x.key, .int .i64 x.on, .int .i64 x.say, .int .i64 x.ask, .int .i64 x.tell] 47)).alloc (.cells #[.int .i64 x.key, .int .i64 x.on, .int .i64 x.say, .int .i64 x.ask, .int .i64 x.tell] 47)).heap.size _)
  have PL := Lib.hid pl
  have h0 : (x.key != x.key) = false := by simp
  have h1 : (x.on != x.on) = false := by simp
  clear p0 p1 pl
  go_enter Tryd.func62, Tryd.ntmps62
  go_wp2_with fail
  refine (eqtk_refl _ _ _ _).mono ?_
  rintro e w1 ⟨rfl, hb⟩
  have B1 := Lib.hid (Below.on PL.out hb)
  clear hb
  go_wp2
  go_ret
  exact ⟨rfl, B1.out⟩

/-- What a later world keeps of two lists. -/
structure Tn (W : World) (v u : Value) (ns : List Nt) (w : World) : Prop where
  o1 : Nts w v ns
  o2 : Nts w u ns
  below : Below W.heap.size W w
theorem Tn.on {W w w' : World} {v u : Value} {ns : List Nt} (h : Hid (Tn W v u ns w)) (hb : Below w.heap.size w w') : Hid (Tn W v u ns w') := Lib.hid ⟨h.out.o1.on hb, h.out.o2.on hb, Below.on h.out.below hb⟩
set_option maxHeartbeats 1600000 in
theorem eqnts_any (v u : Value) (ns : List Nt) (w : World) (h : Nts w v ns) (h' : Nts w u ns) : Calls Tryd.prog 42 #[v, u] w fun e w' => e = .returned (.bool true) ∧ Below w.heap.size w w' := by
  obtain ⟨n, hn⟩ : ∃ n, ns.length = n := ⟨_, rfl⟩
  obtain ⟨a, c, rfl, k1⟩ := h.opened
  obtain ⟨a', c', rfl, k2⟩ := h'.opened
  have hmax := k1.max
  rw [hn] at h h' hmax ⊢
  unfold maxLen at hmax
  have hb : ((n : Int) != (n : Int)) = false := by simp
  have M0 : Hid (Tn w (.slice a n c) (.slice a' n c') ns w) := Lib.hid ⟨h, h', Below.refl _ _⟩
  have HA : Hid (∀ k, k < n → ∃ g g', a = some ⟨g, 0, none⟩ ∧ a' = some ⟨g', 0, none⟩ ∧ ∀ w', Tn w (.slice a n c) (.slice a' n c') ns w' → NtAt w' g k (nthN ns k) ∧ NtAt w' g' k (nthN ns k)) := Lib.hid (fun k hk => by
    obtain ⟨g, e, _, _⟩ := k1.get k (by rw [hn]; exact hk)
    obtain ⟨g', e', _, _⟩ := k2.get k (by rw [hn]; exact hk)
    refine ⟨g, g', e, e', fun w' M => ?_⟩
    obtain ⟨a1, c1, q1, m1⟩ := M.o1.opened
    obtain ⟨a2, c2, q2, m2⟩ := M.o2.opened
    obtain ⟨G, E, _, A1⟩ := m1.get k (by rw [hn]; exact hk)
    obtain ⟨G', E', _, A2⟩ := m2.get k (by rw [hn]; exact hk)
    cases q1; cases q2
    rw [e] at E; rw [e'] at E'
    cases E; cases E'
    exact ⟨A1, A2⟩)
  clear h h' hn k1 k2
  go_enter Tryd.func42, Tryd.ntmps42
  go_wp2
  go_loopw [5] (fun i wr => ∃ k : Nat, k ≤ n ∧ i = .int .i64 k ∧ Hid (Tn w (.slice a n c) (.slice a' n c') ns wr)) (fun i _ => n - (intOf i).toNat)
  case atStart => exact ⟨0, by omega, rfl, M0⟩
  case round =>
    obtain ⟨k, hk, rfl, M⟩ := hrel
    obtain ⟨wo, rfl⟩ : ∃ wo : World, wo = wr := ⟨_, rfl⟩
    by_cases hlt : k < n
    · obtain ⟨g, g', rfl, rfl, hat⟩ := HA.out k hlt
      have HAT := Lib.hid hat
      clear hat
      generalize nthN ns k = x at HAT
      have hlt1 : (k : Int) < (n : Int) := by omega
      have HD : Hid (Tn w (.slice (some ⟨g, 0, none⟩) n c) (.slice (some ⟨g', 0, none⟩) n c') ns wo.drew) := Tn.on M (Below.refl _ _).drew
      go_wp2_with fail
      refine wp_region_class (C := fun w' => Hid (Tn w (.slice (some ⟨g, 0, none⟩) n c) (.slice (some ⟨g', 0, none⟩) n c') ns w')) (by kernel_rfl) (by kernel_rfl) HD ?_
      repeat (first | go_big_quiet_skip | (go_big_quiet_want; go_big_quiet_op; first | go_big_quiet_on | (refine ⟨_, fun _ _ => rfl, ?_⟩; go_big_quiet_on)))
      go_big_quiet_want
      go_big_quiet_op
      refine ⟨.agg #[.int .i64 x.key, .int .i64 x.on, .int .i64 x.say, .int .i64 x.ask, .int .i64 x.tell], fun w' hw' => ?_, ?_⟩
      · obtain ⟨⟨q0, q1, q2, q3, q4⟩, _⟩ := HAT.out _ hw'.out
        simp [go_sem, q0, q1, q2, q3, q4]
      go_big_quiet_on
      repeat (first | go_big_quiet_skip | (go_big_quiet_want; go_big_quiet_op; first | go_big_quiet_on | (refine ⟨_, fun _ _ => rfl, ?_⟩; go_big_quiet_on)))
      go_big_quiet_want
      go_big_quiet_op
      refine ⟨.agg #[.int .i64 x.key, .int .i64 x.on, .int .i64 x.say, .int .i64 x.ask, .int .i64 x.tell], fun w' hw' => ?_, ?_⟩
      · obtain ⟨_, ⟨q0, q1, q2, q3, q4⟩⟩ := HAT.out _ hw'.out
        simp [go_sem, q0, q1, q2, q3, q4]
      go_big_quiet_on
      repeat (first | go_big_quiet_skip | (go_big_quiet_want; go_big_quiet_op; first | go_big_quiet_on | (refine ⟨_, fun _ _ => rfl, ?_⟩; go_big_quiet_on)))
      go_big_quiet_want
      go_big_quiet_op
      go_big_quiet_call ((intro hw; exact (eqnt_refl x _).mono fun _ _ ⟨he, hb⟩ => ⟨he, Tn.on hw hb⟩))
      repeat (first | go_big_quiet_skip | (go_big_quiet_want; go_big_quiet_op; first | go_big_quiet_on | (refine ⟨_, fun _ _ => rfl, ?_⟩; go_big_quiet_on)))
      refine wpQuiet_nil ?_
      intro w2 M2
      clear HD M HAT
      go_wp2
      go_roundw
      case rel => exact ⟨k + 1, by omega, by go_num, M2⟩
      case measure => simp [intOf]; omega
    · obtain rfl : k = n := by omega
      go_wp2
      go_ret
      exact ⟨rfl, M.out.below⟩
theorem eqbd_any (p : Int) (v v' : Value) (es : List Nt) (w : World) (h1 : Nts w v es) (h2 : Nts w v' es) :
    Calls Tryd.prog 14 #[.agg #[.int .i64 p, v], .agg #[.int .i64 p, v']] w fun e w' => e = .returned (.bool true) ∧ Below w.heap.size w w' := by
  obtain ⟨p0, p1, pl⟩ := boxes2 (P := [.int .i64 p, v]) (R := [.int .i64 p, v']) (Below.refl ((w.alloc (.cells #[.int .i64 p, v] 29)).alloc (.cells #[.int .i64 p, v'] 29)).heap.size _)
  have PL := Lib.hid pl
  have H1 := Lib.hid (h1.on pl)
  have H2 := Lib.hid (h2.on pl)
  have hd : (p != p) = false := by simp
  clear p0 p1 pl h1 h2
  go_enter Tryd.func14, Tryd.ntmps14
  go_wp2_with fail
  refine (eqnts_any v v' es _ H1.out H2.out).mono ?_
  rintro e w1 ⟨rfl, hb⟩
  have B1 := Lib.hid (Below.on PL.out hb)
  clear hb
  go_wp2
  go_ret
  exact ⟨rfl, B1.out⟩

/-! ### marks -/
def markN (ns : List Nt) (m : Int) : List Nt := (List.range ns.length).map fun i : Nat => ⟨m + 5 * (i : Int), m + 5 * (i : Int) + 1, m + 5 * (i : Int) + 2, m + 5 * (i : Int) + 3, m + 5 * (i : Int) + 4⟩
theorem markN_len (ns : List Nt) (m : Int) : (markN ns m).length = ns.length := by simp [markN]
theorem markN_nth {ns : List Nt} {m : Int} {i : Nat} (h : i < ns.length) : nthN (markN ns m) i = ⟨m + 5 * (i : Int), m + 5 * (i : Int) + 1, m + 5 * (i : Int) + 2, m + 5 * (i : Int) + 3, m + 5 * (i : Int) + 4⟩ := by
  rw [nthN_get (by rw [markN_len]; exact h)]; simp [markN]
/-- An owned list whose first k cells are m, m + 1, .. -/
def MkN (w : World) (B : Nat) (v : Value) (n : Nat) (m : Int) (k : Nat) : Prop :=
  ∃ F : List Value, F.length = n * 5 ∧ (∀ j : Nat, j < k → F[j]? = some (.int .i64 (m + j))) ∧ w.ownsRow B 47 5 v n F
theorem MkN.start {w : World} {B : Nat} {v : Value} {d : List Nt} (h : OwnN w B v d) (m : Int) : MkN w B v d.length m 0 := ⟨_, flatN_len d, fun _ hj => by omega, h⟩
theorem MkN.set {w : World} {B g n cap k : Nat} {m : Int} (h : MkN w B (.slice (some ⟨g, 0, none⟩) n cap) n m k) (hk : k < n * 5) {x : Int} (hx : x = m + k) :
    (w.frozen? ⟨g, k, none⟩ = false ∧ ∃ u, w.cell? ⟨g, k, none⟩ = some u) ∧ MkN (w.setCell ⟨g, k, none⟩ (.int .i64 x)) B (.slice (some ⟨g, 0, none⟩) n cap) n m (k + 1) ∧ w.grownBy (w.setCell ⟨g, k, none⟩ (.int .i64 x)) (some g) := by
  obtain ⟨F, hF, hm, ho⟩ := h
  refine ⟨⟨ho.frozenAt k, _, (ho.cellAt k hk).trans (List.getElem?_eq_getElem (by omega))⟩, ⟨F.set k (.int .i64 x), by rw [List.length_set]; exact hF, fun j hj => ?_, (ho.stored k (.int .i64 x)).1⟩, (ho.stored k (.int .i64 x)).2⟩
  by_cases e : k = j
  · subst e; rw [List.getElem?_set_self (by omega), hx]
  · rw [List.getElem?_set_ne e]; exact hm j (by omega)
theorem MkN.all {w : World} {B : Nat} {v : Value} {ns : List Nt} {m : Int} (h : MkN w B v ns.length m (ns.length * 5)) : OwnN w B v (markN ns m) := by
  obtain ⟨F, hF, hm, ho⟩ := h
  have e : F = (markN ns m).flatMap encN := by
    refine List.ext_getElem? fun i => ?_
    by_cases hi : i < ns.length * 5
    · rw [hm i hi, flatN_get _ i (by rw [markN_len]; exact hi), markN_nth (by omega)]
      have h5 : i % 5 < 5 := Nat.mod_lt _ (by omega)
      have hd : i = 5 * (i / 5) + i % 5 := by omega
      obtain ⟨q, hq⟩ : ∃ q, i / 5 = q := ⟨_, rfl⟩
      obtain ⟨r, hr⟩ : ∃ r, i % 5 = r := ⟨_, rfl⟩
      rw [hq, hr] at hd
      rw [hr] at h5
      rw [hq, hr]
      match r, h5 with
      | 0, _ => simp [encN]; omega
      | 1, _ => simp [encN]; omega
      | 2, _ => simp [encN]; omega
      | 3, _ => simp [encN]; omega
      | 4, _ => simp [encN]; omega
    · rw [List.getElem?_eq_none (by omega), List.getElem?_eq_none (by rw [flatN_len, markN_len]; omega)]
  unfold OwnN
  rw [markN_len, ← e]
  exact ho
theorem grown_two {w w1 w2 : World} {g : Nat} (h : w.grownBy w1 (some g)) (k : w1.grownBy w2 (some g)) : w.grownBy w2 (some g) :=
  ⟨k.os.trans h.os, k.tape.trans h.tape, k.output.trans h.output, Nat.le_trans h.size k.size, fun i hi hr => (k.block i (Nat.lt_of_lt_of_le hi h.size) hr).trans (h.block i hi hr)⟩
set_option maxRecDepth 20000 in
set_option maxHeartbeats 3200000 in
theorem mknts_any (v : Value) (ns : List Nt) (m : Int) (B : Nat) (w : World) (h : OwnN w B v ns) (hl : ns.length ≤ 4000000) (m0 : 0 ≤ m) (m1 : m ≤ 1000000000) :
    Calls Tryd.prog 45 #[v, .int .i64 m] w fun e w' => e = .returned (.int .i64 (m + 5 * (ns.length : Int))) ∧ OwnN w' B v (markN ns m) ∧ w.grownBy w' v.ownBlock := by
  obtain ⟨n, hn⟩ : ∃ n, ns.length = n := ⟨_, rfl⟩
  have HF : Hid (∀ w', MkN w' B v n m (n * 5) → OwnN w' B v (markN ns m)) := Lib.hid (fun w' h' => MkN.all (by rw [hn]; exact h'))
  have HO := Lib.hid (show MkN w B v n m 0 by rw [← hn]; exact MkN.start h m)
  have hh := h.2
  rw [hn] at hh hl ⊢
  clear h hn
  rcases hh with ⟨rfl, rfl⟩ | ⟨g, cap, cur, rfl, hB, hg, hnc, hcm, hcs, htake⟩
  · go_enter Tryd.func45, Tryd.ntmps45
    go_wp2
    go_loop [1, 5] (fun q i => q = .int .i64 m ∧ i = .int .i64 0) (fun _ _ => 0)
    case atStart => exact ⟨rfl, rfl⟩
    case round =>
      obtain ⟨rfl, rfl⟩ := hrel
      go_wp2
      go_ret
      exact ⟨by simp, HF.out _ HO.out, rfl, rfl, rfl, Nat.le_refl _, fun _ _ _ => rfl⟩
  · clear hg hcs htake hB hnc hcm
    go_enter Tryd.func45, Tryd.ntmps45
    go_wp2
    go_loopw [1, 5] (fun q i wr => ∃ k : Nat, k ≤ n ∧ i = .int .i64 k ∧ q = .int .i64 (m + 5 * k) ∧ Hid (MkN wr B (.slice (some ⟨g, 0, none⟩) n cap) n m (k * 5)) ∧ Hid (w.grownBy wr (some g))) (fun _ i _ => n - (intOf i).toNat)
    case atStart => exact ⟨0, by omega, rfl, by simp, HO, Lib.hid ⟨rfl, rfl, rfl, Nat.le_refl _, fun _ _ _ => rfl⟩⟩
    case round =>
      obtain ⟨k, hk, rfl, rfl, ho, hgr⟩ := hrel
      by_cases hlt : k < n
      · have hlt1 : (k : Int) < (n : Int) := by omega
        have O0 := ho
        have G0 := hgr
        clear ho hgr
        obtain ⟨⟨f0, u0, c0⟩, o1, g1⟩ := O0.out.set (by omega) (x := m + 5 * k) (by omega)
        have O1 := Lib.hid o1
        have G1 := Lib.hid (grown_two G0.out g1)
        clear o1 g1 O0 G0
        go_upto_region 6 with (fail)
        clear f0 c0
        generalize wr.setCell ⟨g, k * 5, none⟩ (.int .i64 (m + 5 * (k : Int))) = w1 at *
        obtain ⟨⟨f0, u1, c0⟩, o1, g1⟩ := O1.out.set (by omega) (x := m + 5 * k + 1) (by omega)
        have O2 := Lib.hid o1
        have G2 := Lib.hid (grown_two G1.out g1)
        clear o1 g1 O1 G1
        go_upto_region 8 with (fail)
        clear f0 c0
        generalize w1.setCell ⟨g, k * 5 + 1, none⟩ (.int .i64 (m + 5 * (k : Int) + 1)) = w2 at *
        obtain ⟨⟨f0, u2, c0⟩, o1, g1⟩ := O2.out.set (by omega) (x := m + 5 * k + 1 + 1) (by omega)
        have O3 := Lib.hid o1
        have G3 := Lib.hid (grown_two G2.out g1)
        clear o1 g1 O2 G2
        go_upto_region 10 with (fail)
        clear f0 c0
        generalize w2.setCell ⟨g, k * 5 + 2, none⟩ (.int .i64 (m + 5 * (k : Int) + 1 + 1)) = w3 at *
        obtain ⟨⟨f0, u3, c0⟩, o1, g1⟩ := O3.out.set (by omega) (x := m + 5 * k + 1 + 1 + 1) (by omega)
        have O4 := Lib.hid o1
        have G4 := Lib.hid (grown_two G3.out g1)
        clear o1 g1 O3 G3
        go_upto_region 12 with (fail)
        clear f0 c0
        generalize w3.setCell ⟨g, k * 5 + 3, none⟩ (.int .i64 (m + 5 * (k : Int) + 1 + 1 + 1)) = w4 at *
        obtain ⟨⟨f0, u4, c0⟩, o1, g1⟩ := O4.out.set (by omega) (x := m + 5 * k + 1 + 1 + 1 + 1) (by omega)
        have O5 := Lib.hid o1
        have G5 := Lib.hid (grown_two G4.out g1)
        clear o1 g1 O4 G4
        go_wp2
        clear f0 c0
        go_roundw
        case rel => exact ⟨k + 1, by omega, by go_num, by go_num, Lib.hid (by rw [show (k + 1) * 5 = k * 5 + 1 + 1 + 1 + 1 + 1 by omega]; exact O5.out), G5⟩
        case measure => simp [intOf]; omega
      · obtain rfl : k = n := by omega
        go_wp2
        go_ret
        exact ⟨rfl, HF.out _ ho.out, hgr.out⟩
/-- A list of notes in memory of the call's own. -/
def cpN (lo hi : Nat) (v : Value) (ns : List Nt) : Cp := .o lo hi (fun w => OwnN w lo v ns ∧ ∀ k, v.ownBlock = some k → k < hi) (fun _ _ h hh => ⟨row5_heap h.1 fun k hk => hh k (h.1.lt k hk).1 (h.2 k hk), h.2⟩)
theorem Hl.mkN {w : World} {B : Nat} {v : Value} {ns : List Nt} (h : OwnN w B v ns) : Hl w (cpN B w.heap.size v ns) := ⟨⟨h, fun k hk => (h.lt k hk).2⟩, Nat.le_refl _⟩
theorem mkbd_any (p : Int) (lo hi : Nat) (v : Value) (es : List Nt) (m : Int) (w : World) (h : Hl w (cpN lo hi v es)) (hl : es.length ≤ 4000000) (m0 : 0 ≤ m) (m1 : m ≤ 1000000000) :
    Calls Tryd.prog 18 #[.agg #[.int .i64 p, v], .int .i64 m] w fun e w' => e = .returned (.int .i64 (m + 5 * (es.length : Int))) ∧ Hl w' (cpN lo hi v (markN es m)) ∧ Outside lo hi w w' := by
  have H := Lib.hid (h.on (below_grow w (.cells #[.int .i64 p, v] 29)))
  clear h
  go_enter Tryd.func18, Tryd.ntmps18
  go_wp2_with fail
  refine (mknts_any v es m lo _ H.out.1.1 hl m0 m1).mono ?_
  rintro e w1 ⟨rfl, oo, gr⟩
  have HH : Hid (Hl w1 (cpN lo hi v (markN es m))) := Lib.hid ⟨⟨oo, H.out.1.2⟩, Nat.le_trans H.out.2 gr.size⟩
  have HO := Lib.hid (Outside.alloc _ (Outside.of_grown (lo := lo) (hi := hi) gr fun k hk => ⟨(H.out.1.1.lt k hk).1, H.out.1.2 k hk⟩))
  clear oo gr
  go_wp2
  go_ret
  exact ⟨rfl, HH.out, HO.out⟩
end Go.Proofs.YtiinifcepcaonaaDoor
