/- spec: OrderThen, OrderBack, l7Moved, GraphMoved. -/
import Derived.Test.YtimkmdedoacpfabDoorGphS
import Derived.Test.YtimkmdedoacpfabDoorBLot
namespace Go.Proofs.YtimkmdedoacpfabDoor
open Go.RowKit

def thB (a b : List Int) : Bool := odB a a.length && odB b a.length
/-- OrderThen. -/
def thL (a b : List Int) : List Int := if thB a b then thn a b else []
theorem thL_yes {a b : List Int} (h : thB a b = true) : thL a b = thn a b := by simp [thL, h]
theorem thL_no {a b : List Int} (h : thB a b = false) : thL a b = [] := by simp [thL, h]
theorem thB_true {a b : List Int} : thB a b = true ↔ Od a a.length ∧ Od b a.length := by unfold thB; rw [Bool.and_eq_true, odB_true, odB_true]
/-- OrderBack. -/
def bkL (a : List Int) : List Int := if odB a a.length then bck a else []
theorem bkL_yes {a : List Int} (h : odB a a.length = true) : bkL a = bck a := by simp [bkL, h]
theorem bkL_no {a : List Int} (h : odB a a.length = false) : bkL a = [] := by simp [bkL, h]
theorem sod_is {v : Value} {o : List Int} {m : Int} {w : World} {r : Bool} (hr : odB o m = r) (h : Ints w v o) : Calls Tryd.prog 52 #[v, .int .i64 m] w fun e w' => e = .returned (.bool r) ∧ Below w.heap.size w w' := by rw [← hr]; exact sod_any v o m w h
theorem sgk_is {p : Int} {v : Value} {es : List Int} {w : World} {r : Bool} (hr : gkB p es = r) (h : Ints w v es) (hp : intIn p) (hs : ∀ j, j < es.length → intIn (nth es j)) : Calls Tryd.prog 29 #[.agg #[.int .i64 p, v]] w fun e w' => e = .returned (.bool r) ∧ Below w.heap.size w w' := by rw [← hr]; exact sgk_any p v es w h hp hs

theorem sbck_no (va : Value) (a : List Int) (w : World) (h : Ints w va a) (hb : odB a a.length = false) : Calls Tryd.prog 56 #[va] w fun e w' => ∃ v, e = .returned v ∧ Own w' w.heap.size v (bkL a) ∧ Below w.heap.size w w' := by
  have HX := Lib.hid (bkL_no hb)
  have HA := Lib.hid h
  obtain ⟨aa, ac, rfl, _⟩ := h.opened
  obtain ⟨n, hn⟩ : ∃ n, a.length = n := ⟨_, rfl⟩
  rw [hn] at HA hb ⊢
  clear h hn
  go_enter Tryd.func56, Tryd.ntmps56
  go_wp2_with fail
  refine (sod_is hb HA.out).mono ?_
  rintro e w1 ⟨rfl, hb1⟩
  have O1 := Lib.hid (own_mono (own_made' w1) hb1.size)
  have B1 := Lib.hid (Below.on hb1 (below_grow w1 (.cells #[] 3)))
  clear hb1 hb
  go_wp2
  go_ret
  exact ⟨_, rfl, by rw [HX.out]; exact O1.out, B1.out⟩

set_option maxHeartbeats 1600000 in
theorem sbck_yes (va : Value) (a : List Int) (w : World) (h : Ints w va a) (hb : odB a a.length = true) : Calls Tryd.prog 56 #[va] w fun e w' => ∃ v, e = .returned v ∧ Own w' w.heap.size v (bkL a) ∧ Below w.heap.size w w' := by
  have HA := Lib.hid h
  have oa := odB_true.1 hb
  obtain ⟨aa, ac, rfl, k1⟩ := h.opened
  have HC := Lib.hid (show ∀ k, k < a.length → ∃ G q, aa = some ⟨G, 0, none⟩ ∧ (∀ w', Below w.heap.size w w' → w'.cell? ⟨G, k, none⟩ = some (.int .i64 ((q : Nat) : Int))) ∧ q < a.length ∧ backTo a (k + 1) = (backTo a k).set q k from fun k hk => by
    obtain ⟨G, e1, hl, e2⟩ := k1.get k hk
    have hbd := oa.bd k hk
    have hal := oa.len
    exact ⟨G, (nth a k).toNat, e1, fun w' hb => by rw [show (((nth a k).toNat : Nat) : Int) = nth a k by omega]; exact (hb.cell (p := ⟨G, k, none⟩) hl).trans e2, by omega, rfl⟩)
  obtain ⟨BT, hBT⟩ : ∃ BT : Nat → List Int, BT = backTo a := ⟨_, rfl⟩
  obtain ⟨n, hn⟩ : ∃ n, a.length = n := ⟨_, rfl⟩
  have HX := Lib.hid (show bkL a = BT n from by rw [bkL_yes hb, hBT, ← hn]; rfl)
  have HTL := Lib.hid (show ∀ k, (BT k).length = n from fun k => by rw [hBT, backTo_len, hn])
  have HT0 := Lib.hid (show BT 0 = List.replicate n 0 from by rw [hBT, ← hn]; rfl)
  have hn5 : n ≤ 5 := by have := oa.len; have := oa.m5; omega
  have hn1 : 1 ≤ n := by have := oa.len; have := oa.m1; omega
  rw [← hBT] at HC
  rw [hn] at HA HC hb ⊢
  have hmk := run_make_row' (P := Tryd.prog) 23 3 (.int .i64 0) 8 Tryd.underlying23 infoInt rfl .i64 .i64 n (by omega) (by omega)
  clear h hn oa k1 hBT
  go_enter Tryd.func56, Tryd.ntmps56
  go_wp2_with fail
  refine (sod_is hb HA.out).mono ?_
  rintro e w1 ⟨rfl, hb1⟩
  have O1 := Lib.hid (own_make w1 n (by omega))
  have B1 := Lib.hid (Below.on hb1 (below_grow w1 (.cells (madeCells #[.int .i64 0] n) 3)))
  have Z1 := Lib.hid hb1.size
  clear hb1 hb
  go_wp2
  clear hmk
  go_loopw [4] (fun i wr => ∃ k : Nat, k ≤ n ∧ i = .int .i64 k ∧ Hid (Own wr w1.heap.size (.slice (some ⟨w1.heap.size, 0, none⟩) n n) (BT k)) ∧ Hid (Below w.heap.size w wr)) (fun i _ => n - (intOf i).toNat)
  case atStart => exact ⟨0, by omega, rfl, Lib.hid (by rw [HT0.out]; exact O1.out), B1⟩
  case round =>
    obtain ⟨k, hk, rfl, hO, hB⟩ := hrel
    obtain ⟨wo, rfl⟩ : ∃ wo : World, wo = wr := ⟨_, rfl⟩
    clear O1 B1
    by_cases hlt : k < n
    · obtain ⟨G, q, rfl, hc1, hq, hs⟩ := HC.out k hlt
      have d1 := hc1 _ hB.out
      have hlt1 : (k : Int) < (n : Int) := by omega
      have hq1 : (q : Int) < (n : Int) := by omega
      obtain ⟨⟨f1, f2⟩, s1, s2⟩ := Own.set (k := q) hO.out (HTL.out k) hq (k : Int)
      have O2 : Hid (Own (wo.setCell ⟨w1.heap.size, q, none⟩ (.int .i64 (k : Int))) w1.heap.size (.slice (some ⟨w1.heap.size, 0, none⟩) n n) (BT (k + 1))) := Lib.hid (by rw [hs]; exact s1)
      have B2 := Lib.hid (hB.out.grown s2 hB.out.size (fun b hb => by cases hb; exact Z1.out))
      clear hc1 hs s1 s2 hO hB
      go_wp2
      go_roundw
      case rel => exact ⟨k + 1, by omega, by go_num, O2, B2⟩
      case measure => simp [intOf]; omega
    · obtain rfl : k = n := by omega
      go_wp2
      go_ret
      exact ⟨_, rfl, by rw [HX.out]; exact own_mono hO.out Z1.out, hB.out⟩
theorem sbck_any (va : Value) (a : List Int) (w : World) (h : Ints w va a) : Calls Tryd.prog 56 #[va] w fun e w' => ∃ v, e = .returned v ∧ Own w' w.heap.size v (bkL a) ∧ Below w.heap.size w w' := by
  cases hb : odB a a.length
  · exact sbck_no va a w h hb
  · exact sbck_yes va a w h hb
end Go.Proofs.YtimkmdedoacpfabDoor
