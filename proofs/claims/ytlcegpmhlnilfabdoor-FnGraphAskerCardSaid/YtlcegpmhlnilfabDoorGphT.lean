/- spec: OrderThen, OrderBack, l7Moved, GraphMoved. -/
import Derived.Test.YtlcegpmhlnilfabDoorGphS
import Derived.Test.YtlcegpmhlnilfabDoorBLot
namespace Go.Proofs.YtlcegpmhlnilfabDoor
open Go.RowKit

def thB (a b : List Int) : Bool := odB a a.length && odB b a.length
/-- OrderThen. -/
def thL (a b : List Int) : List Int := if thB a b then thn a b else []
theorem thL_yes {a b : List Int} (h : thB a b = true) : thL a b = thn a b := by simp [thL, h]
theorem thL_no {a b : List Int} (h : thB a b = false) : thL a b = [] := by simp [thL, h]
theorem thB_true {a b : List Int} : thB a b = true ↔ Od a a.length ∧ Od b a.length := by unfold thB; rw [Bool.and_eq_true, odB_true, odB_true]
/-- OrderBack. -/
def bkL (a : List Int) : List Int := if odB a a.length then bck a else []
theorem bkL_yes {a : List Int} (h : odB a a.length = true) : bkL a = bck a := by simp [bkL, h]
theorem bkL_no {a : List Int} (h : odB a a.length = false) : bkL a = [] := by simp [bkL, h]
theorem sod_is {v : Value} {o : List Int} {m : Int} {w : World} {r : Bool} (hr : odB o m = r) (h : Ints w v o) : Calls Tryd.prog 141 #[v, .int .i64 m] w fun e w' => e = .returned (.bool r) ∧ Below w.heap.size w w' := by rw [← hr]; exact sod_any v o m w h
theorem sgk_is {p : Int} {v : Value} {es : List Int} {w : World} {r : Bool} (hr : gkB p es = r) (h : Ints w v es) (hp : intIn p) (hs : ∀ j, j < es.length → intIn (nth es j)) : Calls Tryd.prog 58 #[.agg #[.int .i64 p, v]] w fun e w' => e = .returned (.bool r) ∧ Below w.heap.size w w' := by rw [← hr]; exact sgk_any p v es w h hp hs

theorem sthn_no (va vb : Value) (a b : List Int) (w : World) (h : Ints w va a) (h' : Ints w vb b) (hb : thB a b = false) : Calls Tryd.prog 142 #[va, vb] w fun e w' => ∃ v, e = .returned v ∧ Own w' w.heap.size v (thL a b) ∧ Below w.heap.size w w' := by
  have HA := Lib.hid (show ∀ w', Below w.heap.size w w' → Ints w' va a from fun w' hb => h.below hb)
  have HB := Lib.hid (show ∀ w', Below w.heap.size w w' → Ints w' vb b from fun w' hb => h'.below hb)
  have HX := Lib.hid (thL_no hb)
  obtain ⟨aa, ac, rfl, _⟩ := h.opened
  obtain ⟨n, hn⟩ : ∃ n, a.length = n := ⟨_, rfl⟩
  obtain ⟨ra, hra⟩ : ∃ r, odB a n = r := ⟨_, rfl⟩
  obtain ⟨rb, hrb⟩ : ∃ r, odB b n = r := ⟨_, rfl⟩
  have hab : ra = true → rb = false := fun e => by
    unfold thB at hb; rw [hn, hra, hrb, e] at hb; simpa using hb
  have O0 := Lib.hid (own_made' w)
  have B0 := Lib.hid (below_grow w (.cells #[] 3))
  have HRA := Lib.hid hra
  have HRB := Lib.hid hrb
  rw [hn] at HA ⊢
  clear h h' hb hn hra hrb
  go_enter Tryd.func142, Tryd.ntmps142
  go_wp2
  go_loopw [5, 6] (fun v i wr => i = .int .i64 0 ∧ Hid (Own wr w.heap.size v []) ∧ Hid (Below w.heap.size w wr)) (fun _ _ _ => 0)
  case atStart => exact ⟨rfl, O0, B0⟩
  case round =>
    obtain ⟨rfl, hO, hB⟩ := hrel
    obtain ⟨wo, rfl⟩ : ∃ wo : World, wo = wr := ⟨_, rfl⟩
    clear O0 B0
    by_cases hn0 : (0 : Int) < (n : Int)
    · go_wp2_with fail
      refine (sod_is HRA.out (HA.out _ hB.out)).mono ?_
      rintro e w1 ⟨rfl, hb⟩
      have B1 := Lib.hid (Below.on hB.out hb)
      have O1 := Lib.hid (own_below hO.out hb)
      clear hb
      cases ra
      · go_wp2
        go_ret
        exact ⟨_, rfl, by rw [HX.out]; exact O1.out, B1.out⟩
      · obtain rfl := hab rfl
        go_wp2_with fail
        refine (sod_is HRB.out (HB.out _ B1.out)).mono ?_
        rintro e w2 ⟨rfl, hb⟩
        have B2 := Lib.hid (Below.on B1.out hb)
        have O2 := Lib.hid (own_below O1.out hb)
        clear hb
        go_wp2
        go_ret
        exact ⟨_, rfl, by rw [HX.out]; exact O2.out, B2.out⟩
    · go_wp2
      go_ret
      exact ⟨_, rfl, by rw [HX.out]; exact hO.out, hB.out⟩

set_option maxHeartbeats 1600000 in
theorem sthn_yes (va vb : Value) (a b : List Int) (w : World) (h : Ints w va a) (h' : Ints w vb b) (hb : thB a b = true) : Calls Tryd.prog 142 #[va, vb] w fun e w' => ∃ v, e = .returned v ∧ Own w' w.heap.size v (thL a b) ∧ Below w.heap.size w w' := by
  have HA := Lib.hid (show ∀ w', Below w.heap.size w w' → Ints w' va a from fun w' hb => h.below hb)
  have HB := Lib.hid (show ∀ w', Below w.heap.size w w' → Ints w' vb b from fun w' hb => h'.below hb)
  obtain ⟨oa, ob⟩ := thB_true.1 hb
  obtain ⟨aa, ac, rfl, k1⟩ := h.opened
  obtain ⟨ba, bc, rfl, k2⟩ := h'.opened
  have hbl : b.length = a.length := by have := ob.len; omega
  have HC := Lib.hid (show ∀ k, k < a.length → ∃ G q H, aa = some ⟨G, 0, none⟩ ∧ (∀ w', Below w.heap.size w w' → w'.cell? ⟨G, k, none⟩ = some (.int .i64 ((q : Nat) : Int))) ∧ q < a.length ∧ ba = some ⟨H, 0, none⟩ ∧ ∀ w', Below w.heap.size w w' → w'.cell? ⟨H, q, none⟩ = some (.int .i64 (app b (nth a k))) from fun k hk => by
    obtain ⟨G, e1, hl, e2⟩ := k1.get k hk
    have hbd := oa.bd k hk
    have hal := oa.len
    obtain ⟨H, e3, hl', e4⟩ := k2.get (nth a k).toNat (by omega)
    exact ⟨G, (nth a k).toNat, H, e1, fun w' hb => by rw [show (((nth a k).toNat : Nat) : Int) = nth a k by omega]; exact (hb.cell (p := ⟨G, k, none⟩) hl).trans e2, by omega, e3, fun w' hb => (hb.cell (p := ⟨H, _, none⟩) hl').trans e4⟩)
  obtain ⟨TH, hTH⟩ : ∃ TH : Nat → List Int, TH = thenTo a b := ⟨_, rfl⟩
  have HTS := Lib.hid (show ∀ k, TH (k + 1) = TH k ++ [app b (nth a k)] from fun k => by rw [hTH]; rfl)
  have HTL := Lib.hid (show ∀ k, (TH k).length = k from fun k => by rw [hTH]; exact thenTo_len _ _ _)
  have HT0 := Lib.hid (show TH 0 = [] from by rw [hTH]; rfl)
  obtain ⟨n, hn⟩ : ∃ n, a.length = n := ⟨_, rfl⟩
  have HX := Lib.hid (show thL a b = TH n from by rw [thL_yes hb, hTH, ← hn]; rfl)
  have HRA := Lib.hid (show odB a n = true from by rw [← hn]; exact odB_true.2 oa)
  have HRB := Lib.hid (show odB b n = true from by rw [← hn]; exact odB_true.2 ob)
  have hn5 : n ≤ 5 := by have := oa.len; have := oa.m5; omega
  have O0 := Lib.hid (own_made' w)
  have B0 := Lib.hid (below_grow w (.cells #[] 3))
  rw [hbl, hn] at HB
  rw [hbl]
  rw [hn] at HA HC ⊢
  clear h h' hb hn oa ob k1 k2 hbl hTH
  go_enter Tryd.func142, Tryd.ntmps142
  go_wp2
  go_loopw [5, 6] (fun v i wr => ∃ k : Nat, k ≤ n ∧ i = .int .i64 k ∧ Hid (Own wr w.heap.size v (TH k)) ∧ Hid (Below w.heap.size w wr)) (fun _ i _ => n - (intOf i).toNat)
  case atStart => exact ⟨0, by omega, rfl, Lib.hid (by rw [HT0.out]; exact O0.out), B0⟩
  case round =>
    obtain ⟨k, hk, rfl, hO, hB⟩ := hrel
    obtain ⟨wo, rfl⟩ : ∃ wo : World, wo = wr := ⟨_, rfl⟩
    clear O0 B0
    by_cases hlt : k < n
    · obtain ⟨G, q, H, rfl, hc1, hq, rfl, hc2⟩ := HC.out k hlt
      have HC1 := Lib.hid hc1
      have HC2 := Lib.hid hc2
      have HS := Lib.hid (HTS.out k)
      obtain ⟨y, hy⟩ : ∃ y, app b (nth a k) = y := ⟨_, rfl⟩
      rw [hy] at HC2 HS
      have hlt1 : (k : Int) < (n : Int) := by omega
      have hq1 : (q : Int) < (n : Int) := by omega
      clear hc1 hc2 hy
      go_wp2_with fail
      refine (sod_is HRA.out (HA.out _ hB.out)).mono ?_
      rintro e w1 ⟨rfl, hb⟩
      have B1 := Lib.hid (Below.on hB.out hb)
      have O1 := Lib.hid (own_below hO.out hb)
      clear hb hB hO
      go_wp2_with fail
      refine (sod_is HRB.out (HB.out _ B1.out)).mono ?_
      rintro e w2 ⟨rfl, hb⟩
      have B2 := Lib.hid (Below.on B1.out hb)
      have O2 := Lib.hid (own_below O1.out hb)
      clear hb B1 O1
      have d1 := HC1.out _ B2.out
      have d2 := HC2.out _ B2.out
      have ov := O2.out
      have oz := B2.out.size
      have hll := HTL.out k
      go_wp2_with (at_builtin; refine wpAppInt rfl _ _ rfl rfl ov (by rw [hll]; omega) oz rfl ?_)
      intro v3 w3 o3 g3 _
      have O3 : Hid (Own w3 w.heap.size v3 (TH (k + 1))) := Lib.hid (by rw [HS.out]; exact o3)
      have B3 := Lib.hid (B2.out.grown g3 oz (fun k hk => (ov.lt k hk).1))
      clear d1 d2 ov oz o3 g3 hll B2 O2
      go_wp2
      go_roundw
      case rel => exact ⟨k + 1, by omega, by go_num, O3, B3⟩
      case measure => simp [intOf]; omega
    · obtain rfl : k = n := by omega
      go_wp2
      go_ret
      exact ⟨_, rfl, by rw [HX.out]; exact hO.out, hB.out⟩
theorem sthn_any (va vb : Value) (a b : List Int) (w : World) (h : Ints w va a) (h' : Ints w vb b) : Calls Tryd.prog 142 #[va, vb] w fun e w' => ∃ v, e = .returned v ∧ Own w' w.heap.size v (thL a b) ∧ Below w.heap.size w w' := by
  cases hb : thB a b
  · exact sthn_no va vb a b w h h' hb
  · exact sthn_yes va vb a b w h h' hb

theorem sbck_no (va : Value) (a : List Int) (w : World) (h : Ints w va a) (hb : odB a a.length = false) : Calls Tryd.prog 143 #[va] w fun e w' => ∃ v, e = .returned v ∧ Own w' w.heap.size v (bkL a) ∧ Below w.heap.size w w' := by
  have HX := Lib.hid (bkL_no hb)
  have HA := Lib.hid h
  obtain ⟨aa, ac, rfl, _⟩ := h.opened
  obtain ⟨n, hn⟩ : ∃ n, a.length = n := ⟨_, rfl⟩
  rw [hn] at HA hb ⊢
  clear h hn
  go_enter Tryd.func143, Tryd.ntmps143
  go_wp2_with fail
  refine (sod_is hb HA.out).mono ?_
  rintro e w1 ⟨rfl, hb1⟩
  have O1 := Lib.hid (own_mono (own_made' w1) hb1.size)
  have B1 := Lib.hid (Below.on hb1 (below_grow w1 (.cells #[] 3)))
  clear hb1 hb
  go_wp2
  go_ret
  exact ⟨_, rfl, by rw [HX.out]; exact O1.out, B1.out⟩

set_option maxHeartbeats 1600000 in
theorem sbck_yes (va : Value) (a : List Int) (w : World) (h : Ints w va a) (hb : odB a a.length = true) : Calls Tryd.prog 143 #[va] w fun e w' => ∃ v, e = .returned v ∧ Own w' w.heap.size v (bkL a) ∧ Below w.heap.size w w' := by
  have HA := Lib.hid h
  have oa := odB_true.1 hb
  obtain ⟨aa, ac, rfl, k1⟩ := h.opened
  have HC := Lib.hid (show ∀ k, k < a.length → ∃ G q, aa = some ⟨G, 0, none⟩ ∧ (∀ w', Below w.heap.size w w' → w'.cell? ⟨G, k, none⟩ = some (.int .i64 ((q : Nat) : Int))) ∧ q < a.length ∧ backTo a (k + 1) = (backTo a k).set q k from fun k hk => by
    obtain ⟨G, e1, hl, e2⟩ := k1.get k hk
    have hbd := oa.bd k hk
    have hal := oa.len
    exact ⟨G, (nth a k).toNat, e1, fun w' hb => by rw [show (((nth a k).toNat : Nat) : Int) = nth a k by omega]; exact (hb.cell (p := ⟨G, k, none⟩) hl).trans e2, by omega, rfl⟩)
  obtain ⟨BT, hBT⟩ : ∃ BT : Nat → List Int, BT = backTo a := ⟨_, rfl⟩
  obtain ⟨n, hn⟩ : ∃ n, a.length = n := ⟨_, rfl⟩
  have HX := Lib.hid (show bkL a = BT n from by rw [bkL_yes hb, hBT, ← hn]; rfl)
  have HTL := Lib.hid (show ∀ k, (BT k).length = n from fun k => by rw [hBT, backTo_len, hn])
  have HT0 := Lib.hid (show BT 0 = List.replicate n 0 from by rw [hBT, ← hn]; rfl)
  have hn5 : n ≤ 5 := by have := oa.len; have := oa.m5; omega
  have hn1 : 1 ≤ n := by have := oa.len; have := oa.m1; omega
  rw [← hBT] at HC
  rw [hn] at HA HC hb ⊢
  have hmk := run_make_row' (P := Tryd.prog) 23 3 (.int .i64 0) 8 Tryd.underlying23 infoInt rfl .i64 .i64 n (by omega) (by omega)
  clear h hn oa k1 hBT
  go_enter Tryd.func143, Tryd.ntmps143
  go_wp2_with fail
  refine (sod_is hb HA.out).mono ?_
  rintro e w1 ⟨rfl, hb1⟩
  have O1 := Lib.hid (own_make w1 n (by omega))
  have B1 := Lib.hid (Below.on hb1 (below_grow w1 (.cells (madeCells #[.int .i64 0] n) 3)))
  have Z1 := Lib.hid hb1.size
  clear hb1 hb
  go_wp2
  clear hmk
  go_loopw [4] (fun i wr => ∃ k : Nat, k ≤ n ∧ i = .int .i64 k ∧ Hid (Own wr w1.heap.size (.slice (some ⟨w1.heap.size, 0, none⟩) n n) (BT k)) ∧ Hid (Below w.heap.size w wr)) (fun i _ => n - (intOf i).toNat)
  case atStart => exact ⟨0, by omega, rfl, Lib.hid (by rw [HT0.out]; exact O1.out), B1⟩
  case round =>
    obtain ⟨k, hk, rfl, hO, hB⟩ := hrel
    obtain ⟨wo, rfl⟩ : ∃ wo : World, wo = wr := ⟨_, rfl⟩
    clear O1 B1
    by_cases hlt : k < n
    · obtain ⟨G, q, rfl, hc1, hq, hs⟩ := HC.out k hlt
      have d1 := hc1 _ hB.out
      have hlt1 : (k : Int) < (n : Int) := by omega
      have hq1 : (q : Int) < (n : Int) := by omega
      obtain ⟨⟨f1, f2⟩, s1, s2⟩ := Own.set (k := q) hO.out (HTL.out k) hq (k : Int)
      have O2 : Hid (Own (wo.setCell ⟨w1.heap.size, q, none⟩ (.int .i64 (k : Int))) w1.heap.size (.slice (some ⟨w1.heap.size, 0, none⟩) n n) (BT (k + 1))) := Lib.hid (by rw [hs]; exact s1)
      have B2 := Lib.hid (hB.out.grown s2 hB.out.size (fun b hb => by cases hb; exact Z1.out))
      clear hc1 hs s1 s2 hO hB
      go_wp2
      go_roundw
      case rel => exact ⟨k + 1, by omega, by go_num, O2, B2⟩
      case measure => simp [intOf]; omega
    · obtain rfl : k = n := by omega
      go_wp2
      go_ret
      exact ⟨_, rfl, by rw [HX.out]; exact own_mono hO.out Z1.out, hB.out⟩
theorem sbck_any (va : Value) (a : List Int) (w : World) (h : Ints w va a) : Calls Tryd.prog 143 #[va] w fun e w' => ∃ v, e = .returned v ∧ Own w' w.heap.size v (bkL a) ∧ Below w.heap.size w w' := by
  cases hb : odB a a.length
  · exact sbck_no va a w h hb
  · exact sbck_yes va a w h hb
end Go.Proofs.YtlcegpmhlnilfabDoor
