/- ViewsMade, impl's and spec's. -/
import Derived.Test.YtimkmdedoacpfabDoorColS
import Derived.Test.YtimkmdedoacpfabDoorGphJ
namespace Go.Proofs.YtimkmdedoacpfabDoor
open Go.RowKit

def vmE (t : Int) (j : Nat) : Int := if j % 4 = 0 then 0 else t
/-- The first k entries laid, the others 0. -/
def vmTo (t : Int) (k : Nat) : List Int := (List.range 9).map fun j => if j < k then vmE t j else 0
theorem vmTo_len (t : Int) (k : Nat) : (vmTo t k).length = 9 := by simp [vmTo]
theorem vmTo_nth {t : Int} {k j : Nat} (h : j < 9) : nth (vmTo t k) j = if j < k then vmE t j else 0 := by
  rw [nth_get (by rw [vmTo_len]; exact h)]
  simp [vmTo]
theorem vmTo_put {t : Int} {k : Nat} (hk : k < 9) (h4 : k % 4 ≠ 0) : vmTo t (k + 1) = (vmTo t k).set k t := by
  refine list_eq (by rw [List.length_set, vmTo_len, vmTo_len]) fun j hj => ?_
  rw [vmTo_len] at hj
  rw [nth_set (by rw [vmTo_len]; exact hk), vmTo_nth hj, vmTo_nth hj]
  by_cases e : k = j
  · subst e; rw [if_pos (by omega), if_pos rfl]; simp [vmE, h4]
  · rw [if_neg e]
    by_cases e2 : j < k
    · rw [if_pos e2, if_pos (by omega)]
    · rw [if_neg e2, if_neg (by omega)]
theorem vmTo_pass {t : Int} {k : Nat} (hk : k < 9) (h4 : k % 4 = 0) : vmTo t (k + 1) = vmTo t k := by
  refine list_eq (by rw [vmTo_len, vmTo_len]) fun j hj => ?_
  rw [vmTo_len] at hj
  rw [vmTo_nth hj, vmTo_nth hj]
  by_cases e : j < k
  · rw [if_pos e, if_pos (by omega)]
  · rw [if_neg e]
    by_cases e2 : j = k
    · subst e2; rw [if_pos (by omega)]; simp [vmE, h4]
    · rw [if_neg (by omega)]
theorem vmTo_zero (t : Int) : vmTo t 0 = List.replicate 9 0 := by rfl
theorem vmTo_all (t : Int) : vmTo t 9 = madV t := by rfl
def vmL (t : Int) : List Int := if 1 ≤ t ∧ t ≤ 5 then madV t else []
theorem vmL_yes {t : Int} (h : 1 ≤ t ∧ t ≤ 5) : vmL t = madV t := if_pos h
theorem vmL_no {t : Int} (h : ¬ (1 ≤ t ∧ t ≤ 5)) : vmL t = [] := if_neg h
theorem vmL_few {t : Int} : (vmL t).length ≤ 9 := by unfold vmL; split <;> simp [madV]
def VmPost (t : Int) (w : World) (e : Ending) (w' : World) : Prop := ∃ v, e = .returned v ∧ Own w' w.heap.size v (vmL t) ∧ Below w.heap.size w w'

set_option maxRecDepth 20000 in
set_option maxHeartbeats 3200000 in
theorem ivm_any (t : Int) (w : World) : Calls Tryd.prog 36 #[.int .i64 t] w (VmPost t w) := by
  by_cases h1 : t < 1
  · have HX := Lib.hid (vmL_no (t := t) (by omega))
    have d1 : decide (t < 1) = true := by simpa using h1
    go_enter Tryd.func36, Tryd.ntmps36
    go_wp2
    go_ret
    exact ⟨_, rfl, by rw [HX.out]; exact World.ownsRow_nil _ _ _ _, Below.refl _ _⟩
  have d1 : decide (t < 1) = false := by simpa using h1
  by_cases h2 : 5 < t
  · have HX := Lib.hid (vmL_no (t := t) (by omega))
    have d2 : decide (5 < t) = true := by simpa using h2
    go_enter Tryd.func36, Tryd.ntmps36
    go_wp2
    go_ret
    exact ⟨_, rfl, by rw [HX.out]; exact World.ownsRow_nil _ _ _ _, Below.refl _ _⟩
  have d2 : decide (5 < t) = false := by simpa using h2
  have HX := Lib.hid (vmL_yes (t := t) (by omega))
  have hmk := run_make_row' (P := Tryd.prog) 23 3 (.int .i64 0) 8 Tryd.underlying23 infoInt rfl .i64 .i64 9 (by omega) (by omega)
  simp only [Int.cast_ofNat_Int] at hmk
  have O0 : Hid (Own (w.alloc (.cells (madeCells #[.int .i64 0] 9) 3)) w.heap.size (.slice (some ⟨w.heap.size, 0, none⟩) 9 9) (vmTo t 0)) := Lib.hid (by rw [vmTo_zero]; exact own_make w 9 (by omega))
  have B0 := Lib.hid (below_grow w (.cells (madeCells #[.int .i64 0] 9) 3))
  go_enter Tryd.func36, Tryd.ntmps36
  go_wp2
  clear hmk
  go_loopw [13] (fun i wr => ∃ a : Nat, a ≤ 3 ∧ i = .int .i64 a ∧ Hid (Own wr w.heap.size (.slice (some ⟨w.heap.size, 0, none⟩) 9 9) (vmTo t (3 * a))) ∧ Hid (Below w.heap.size w wr)) (fun i _ => 3 - (intOf i).toNat)
  case atStart => exact ⟨0, by omega, rfl, O0, B0⟩
  case round =>
    obtain ⟨a, ha, rfl, hO, hB⟩ := hrel
    obtain ⟨wo, rfl⟩ : ∃ wo : World, wo = wr := ⟨_, rfl⟩
    clear O0 B0
    by_cases hlt : a < 3
    · have hlt1 : (a : Int) < 3 := by omega
      go_wp2
      go_loopw [16] (fun i wr => ∃ b : Nat, b ≤ 3 ∧ i = .int .i64 b ∧ Hid (Own wr w.heap.size (.slice (some ⟨w.heap.size, 0, none⟩) 9 9) (vmTo t (3 * a + b))) ∧ Hid (Below w.heap.size w wr)) (fun i _ => 3 - (intOf i).toNat)
      case atStart => exact ⟨0, by omega, rfl, hO, hB⟩
      case round =>
        obtain ⟨b, hb, rfl, hO2, hB2⟩ := hrel
        obtain ⟨wi, rfl⟩ : ∃ wi : World, wi = wr := ⟨_, rfl⟩
        clear hO hB
        by_cases hbl : b < 3
        · have hbl1 : (b : Int) < 3 := by omega
          obtain ⟨K, hK⟩ : ∃ K, 3 * a + b = K := ⟨_, rfl⟩
          have hKi : 3 * (a : Int) + (b : Int) = (K : Int) := by omega
          have hK9 : (K : Int) < 9 := by omega
          by_cases hab : a = b
          · have O3 : Hid (Own wi w.heap.size (.slice (some ⟨w.heap.size, 0, none⟩) 9 9) (vmTo t (3 * a + (b + 1)))) := Lib.hid (by rw [← Nat.add_assoc, vmTo_pass (by omega) (by omega)]; exact hO2.out)
            have hd : ((a : Int) != (b : Int)) = false := by simp; omega
            clear hab hK hKi hO2
            go_wp2
            go_roundw
            case rel => exact ⟨b + 1, by omega, by go_num, O3, hB2⟩
            case measure => simp [intOf]; omega
          · have hd : ((a : Int) != (b : Int)) = true := by simp; omega
            have o2 := hO2.out
            rw [hK] at o2
            obtain ⟨⟨f1, f2⟩, s1, s2⟩ := Own.set (k := K) o2 (vmTo_len _ _) (by omega) t
            have O3 : Hid (Own (wi.setCell ⟨w.heap.size, K, none⟩ (.int .i64 t)) w.heap.size (.slice (some ⟨w.heap.size, 0, none⟩) 9 9) (vmTo t (3 * a + (b + 1)))) := Lib.hid (by rw [← Nat.add_assoc, hK, vmTo_put (by omega) (by omega)]; exact s1)
            have B3 := Lib.hid (hB2.out.grown s2 hB2.out.size (fun b hb => by cases hb; exact Nat.le_refl _))
            clear hab hK o2 s1 s2 hO2 hB2
            go_wp2
            go_roundw
            case rel => exact ⟨b + 1, by omega, by go_num, O3, B3⟩
            case measure => simp [intOf]; omega
        · obtain rfl : b = 3 := by omega
          have O4 : Hid (Own wi w.heap.size (.slice (some ⟨w.heap.size, 0, none⟩) 9 9) (vmTo t (3 * (a + 1)))) := hO2
          clear hO2
          go_wp2
          go_roundw
          case rel => exact ⟨a + 1, by omega, by go_num, O4, hB2⟩
          case measure => simp [intOf]; omega
    · obtain rfl : a = 3 := by omega
      go_wp2
      go_ret
      exact ⟨_, rfl, by rw [HX.out, ← vmTo_all]; exact hO.out, hB.out⟩

theorem vmS_succ {t : Int} {k : Nat} (hk : k < 9) : (madV t).take (k + 1) = (madV t).take k ++ [vmE t k] := by
  have : k = 0 ∨ k = 1 ∨ k = 2 ∨ k = 3 ∨ k = 4 ∨ k = 5 ∨ k = 6 ∨ k = 7 ∨ k = 8 := by omega
  rcases this with rfl | rfl | rfl | rfl | rfl | rfl | rfl | rfl | rfl <;> rfl
set_option maxRecDepth 20000 in
set_option maxHeartbeats 3200000 in
theorem svm_any (t : Int) (w : World) : Calls Tryd.prog 38 #[.int .i64 t] w (VmPost t w) := by
  have O0 := Lib.hid (own_made' w)
  have B0 := Lib.hid (below_grow w (.cells #[] 3))
  by_cases ht : 1 ≤ t ∧ t ≤ 5
  case neg =>
    have HX := Lib.hid (vmL_no ht)
    have hd : (decide (1 ≤ t) && decide (t ≤ 5)) = false := by simp; omega
    have HD := Lib.hid hd
    clear ht hd
    go_enter Tryd.func38, Tryd.ntmps38
    go_wp2
    go_loopw [3, 4] (fun v i wr => v = .slice (some ⟨w.heap.size, 0, none⟩) 0 0 ∧ i = .int .i64 0 ∧ wr = w.alloc (.cells #[] 3)) (fun _ _ _ => 0)
    case atStart => exact ⟨rfl, rfl, rfl⟩
    case round =>
      obtain ⟨rfl, rfl, rfl⟩ := hrel
      go_wp2_with fail
      refine (l1In_tb HD.out _).mono ?_
      rintro e w2 ⟨rfl, rfl⟩
      go_wp2
      go_ret
      exact ⟨_, rfl, by rw [HX.out]; exact O0.out, B0.out⟩
  have HX := Lib.hid (vmL_yes ht)
  have hd : (decide (1 ≤ t) && decide (t ≤ 5)) = true := by simp; omega
  have HD := Lib.hid hd
  have O1 : Hid (Own (w.alloc (.cells #[] 3)) w.heap.size (.slice (some ⟨w.heap.size, 0, none⟩) 0 0) ((madV t).take 0)) := O0
  have HML := Lib.hid (show ∀ k, ((madV t).take k).length < 1000000000 from fun k => by rw [List.length_take]; simp [madV]; omega)
  clear hd O0
  go_enter Tryd.func38, Tryd.ntmps38
  go_wp2
  go_loopw [3, 4] (fun v i wr => ∃ a : Nat, a ≤ 3 ∧ i = .int .i64 a ∧ Hid (Own wr w.heap.size v ((madV t).take (3 * a))) ∧ Hid (Below w.heap.size w wr)) (fun _ i _ => 3 - (intOf i).toNat)
  case atStart => exact ⟨0, by omega, rfl, O1, B0⟩
  case round =>
    obtain ⟨a, ha, rfl, hO, hB⟩ := hrel
    obtain ⟨wo, rfl⟩ : ∃ wo : World, wo = wr := ⟨_, rfl⟩
    clear O1 B0
    by_cases hlt : a < 3
    · have hlt1 : (a : Int) < 3 := by omega
      go_wp2_with fail
      refine (l1In_tb HD.out _).mono ?_
      rintro e w2 ⟨rfl, rfl⟩
      go_wp2
      go_loopw [3, 5] (fun v i wr => ∃ b : Nat, b ≤ 3 ∧ i = .int .i64 b ∧ Hid (Own wr w.heap.size v ((madV t).take (3 * a + b))) ∧ Hid (Below w.heap.size w wr)) (fun _ i _ => 3 - (intOf i).toNat)
      case atStart => exact ⟨0, by omega, rfl, hO, hB⟩
      case round =>
        obtain ⟨b, hb, rfl, hO2, hB2⟩ := hrel
        obtain ⟨wi, rfl⟩ : ∃ wi : World, wi = wr := ⟨_, rfl⟩
        clear hO hB
        by_cases hbl : b < 3
        · have hbl1 : (b : Int) < 3 := by omega
          have HS := Lib.hid (vmS_succ (t := t) (k := 3 * a + b) (by omega))
          have ov := hO2.out
          have oz := hB2.out.size
          have hll := HML.out (3 * a + b)
          by_cases hab : a = b
          · have HE : Hid (vmE t (3 * a + b) = 0) := Lib.hid (by unfold vmE; rw [if_pos (by omega)])
            have hd : ((a : Int) == (b : Int)) = true := by simp; omega
            clear hab
            go_wp2_with (at_builtin; refine wpAppInt rfl _ _ rfl rfl ov hll oz rfl ?_)
            intro v2 w4 o2 g2 _
            have O3 : Hid (Own w4 w.heap.size v2 ((madV t).take (3 * a + (b + 1)))) := Lib.hid (by rw [← Nat.add_assoc, HS.out, HE.out]; exact o2)
            have B3 := Lib.hid (hB2.out.grown g2 oz fun q e => (ov.lt q e).1)
            clear ov oz hll o2 g2 hO2 hB2
            go_wp2
            go_roundw
            case rel => exact ⟨b + 1, by omega, by go_num, O3, B3⟩
            case measure => simp [intOf]; omega
          · have HE : Hid (vmE t (3 * a + b) = t) := Lib.hid (by unfold vmE; rw [if_neg (by omega)])
            have hd : ((a : Int) == (b : Int)) = false := by simp; omega
            clear hab
            go_wp2_with (at_builtin; refine wpAppInt rfl _ _ rfl rfl ov hll oz rfl ?_)
            intro v2 w4 o2 g2 _
            have O3 : Hid (Own w4 w.heap.size v2 ((madV t).take (3 * a + (b + 1)))) := Lib.hid (by rw [← Nat.add_assoc, HS.out, HE.out]; exact o2)
            have B3 := Lib.hid (hB2.out.grown g2 oz fun q e => (ov.lt q e).1)
            clear ov oz hll o2 g2 hO2 hB2
            go_wp2
            go_roundw
            case rel => exact ⟨b + 1, by omega, by go_num, O3, B3⟩
            case measure => simp [intOf]; omega
        · obtain rfl : b = 3 := by omega
          have O4 : Hid (Own wi w.heap.size u3 ((madV t).take (3 * (a + 1)))) := hO2
          clear hO2
          go_wp2
          go_roundw
          case rel => exact ⟨a + 1, by omega, by go_num, O4, hB2⟩
          case measure => simp [intOf]; omega
    · obtain rfl : a = 3 := by omega
      go_wp2
      go_ret
      exact ⟨_, rfl, by rw [HX.out]; exact hO.out, hB.out⟩
end Go.Proofs.YtimkmdedoacpfabDoor
