/- The law FnViewsMade, walked. -/
import Derived.Test.YtimkmdedoacpfabDoorDrI
import Derived.Test.YtimkmdedoacpfabDoorVmI
import Derived.Test.YtimkmdedoacpfabDoorBLaw
import Derived.Deep.Cut
namespace Go.Proofs.YtimkmdedoacpfabDoor
open Go.RowKit

/-- P-ViewsMade: the sum of the first k entries. -/
def vsum (t : Int) : Nat → Int
  | 0 => 0
  | k + 1 => vsum t k + nth (madV t) k
theorem mad_in {t : Int} (h : 1 ≤ t ∧ t ≤ 5) : ∀ k, k < 9 → 0 ≤ nth (madV t) k ∧ nth (madV t) k ≤ 5 := by
  intro k hk
  match k, hk with
  | 0, _ => simp [madV, nth]
  | 1, _ => simp only [madV, nth, List.getD_cons_succ, List.getD_cons_zero]; omega
  | 2, _ => simp only [madV, nth, List.getD_cons_succ, List.getD_cons_zero]; omega
  | 3, _ => simp only [madV, nth, List.getD_cons_succ, List.getD_cons_zero]; omega
  | 4, _ => simp [madV, nth]
  | 5, _ => simp only [madV, nth, List.getD_cons_succ, List.getD_cons_zero]; omega
  | 6, _ => simp only [madV, nth, List.getD_cons_succ, List.getD_cons_zero]; omega
  | 7, _ => simp only [madV, nth, List.getD_cons_succ, List.getD_cons_zero]; omega
  | 8, _ => simp [madV, nth]
theorem vsum_in {t : Int} (h : 1 ≤ t ∧ t ≤ 5) : ∀ k, k ≤ 9 → 0 ≤ vsum t k ∧ vsum t k ≤ 5 * k
  | 0, _ => by simp [vsum]
  | k + 1, hk => by
    have h1 := vsum_in h k (by omega)
    have h2 := mad_in h k (by omega)
    show 0 ≤ vsum t k + nth (madV t) k ∧ vsum t k + nth (madV t) k ≤ 5 * ((k + 1 : Nat) : Int)
    omega
theorem vsum_all (t : Int) : vsum t 9 = 6 * t := by
  simp only [vsum, madV, nth, List.getD_cons_succ, List.getD_cons_zero]; omega
def DvmPost (w : World) (e : Ending) (w' : World) : Prop := ∃ t, e = .returned (.int .i64 t) ∧ 0 ≤ t ∧ t ≤ 7 ∧ Below w.heap.size w w'
set_option maxHeartbeats 1600000 in
theorem drawViewsMade_any (s : Value) (w : World) (h : CodeIn w s) : Calls Tryd.prog 37 #[s] w (DvmPost w) := by
  have H := Lib.hid h; clear h
  go_enter Tryd.func37, Tryd.ntmps37
  go_wp2_with fail
  refine (open_any _ _ H.out).mono ?_
  rintro e w1 ⟨rfl, hr, hb⟩
  have HB := Lib.hid hb
  have HS : Hid (w.heap.size ≤ w1.heap.size) := Lib.hid hb.size
  have D1 := Lib.hid (Dx.start hr)
  clear hr hb
  go_wp2_with fail
  refine (pick_any _ _ 8 _ D1.out.rd (by omega)).mono ?_
  rintro e w2 ⟨a, rfl, a0, a1, mma, hw⟩
  have a2 := a1 (by omega)
  have D2 := Lib.hid (D1.out.next hw)
  clear hw a1 D1
  have hf := D2.out.fin HB.out HS.out
  clear D2
  go_wp2
  go_ret
  exact ⟨a, rfl, a0, by omega, hf⟩

set_option maxRecDepth 20000 in
set_option maxHeartbeats 6400000 in
theorem lViewsMade_walk (s : Value) (w : World) (h : CodeIn w s) (G : Gr w) : Calls Tryd.prog 8 #[s] w fun e w' => e = .returned (.bool true) ∧ Below w.heap.size w w' := by
  obtain ⟨a0, len0, cap0, rfl⟩ := h.slice
  have H := Lib.hid h; clear h
  have G0 := Lib.hid G; clear G
  by_cases hl : 1048576 < len0
  · go_enter Tryd.func8, Tryd.ntmps8
    go_wp2
    go_ret
    exact ⟨rfl, Below.refl _ _⟩
  go_enter Tryd.func8, Tryd.ntmps8
  go_wp2_with fail
  refine (drawViewsMade_any _ _ H.out).mono ?_
  rintro e w1 ⟨t, rfl, t0, t7, hb⟩
  have T1 := Lib.hid hb
  clear hb
  go_wp2_with fail
  refine (ivm_any t _).mono ?_
  rintro e w2 ⟨v, rfl, ov, hb⟩
  have T2 := Lib.hid (Below.on T1.out hb)
  have O2 := Lib.hid ov
  clear hb ov T1
  go_wp2_with fail
  refine (svm_any t _).mono ?_
  rintro e w3 ⟨u, rfl, ou, hb⟩
  have T3 := Lib.hid (Below.on T2.out hb)
  have O3 := Lib.hid (own_below O2.out hb)
  have hll : (vmL t).length ≤ maxLen := Nat.le_trans vmL_few (by unfold maxLen; omega)
  go_wp2_with fail
  refine (same_eq v u (vmL t) _ (Ints.of_own O3.out hll) (Ints.of_own ou hll)).mono ?_
  rintro e w4 ⟨rfl, hb'⟩
  have T4 := Lib.hid (Below.on T3.out hb')
  have O4 := Lib.hid (own_below O3.out hb')
  clear hb hb' ou hll T2 T3 O2 O3
  by_cases ht : 1 ≤ t ∧ t ≤ 5
  · have HT := Lib.hid ht
    have hv := vmL_yes ht
    rw [hv] at O4
    obtain ⟨g, c, e1⟩ := own_some (xs := madV t) O4.out (by simp [madV])
    have e2 : v = .slice (some ⟨g, 0, none⟩) 9 c := e1
    subst e2
    have hx := Ints.of_own O4.out (by simp [madV, maxLen])
    have HC := Lib.hid (show ∀ j, j < 9 → w4.cell? ⟨g, j, none⟩ = some (.int .i64 (nth (madV t) j)) from fun j hj => by
      obtain ⟨ga, gc, e9, h1⟩ := hx.opened
      cases e9
      obtain ⟨G, e8, _, e3⟩ := h1.get j (by simpa [madV] using hj)
      cases e8
      exact e3)
    clear ht hv e1 hx O4
    go_upto_region 11 with (fail)
    go_loopw [5, 6] (fun f i wr => ∃ k : Nat, k ≤ 9 ∧ i = .int .i64 k ∧ f = .int .i64 (vsum t k) ∧ wr = w4) (fun _ i _ => 9 - (intOf i).toNat)
    case atStart => exact ⟨0, by omega, rfl, rfl, rfl⟩
    case round =>
      obtain ⟨k, hk, rfl, rfl, rfl⟩ := hrel
      by_cases hlt : k < 9
      · have c1 := HC.out k hlt
        obtain ⟨x, hx⟩ : ∃ x, nth (madV t) k = x := ⟨_, rfl⟩
        have HSX := Lib.hid (show vsum t (k + 1) = vsum t k + x by rw [← hx]; rfl)
        have h1 := vsum_in HT.out k hk
        have h2 := mad_in HT.out k hlt
        rw [hx] at c1 h2
        have hlt1 : (k : Int) < (9 : Int) := by omega
        obtain ⟨y, hy⟩ : ∃ y, vsum t k = y := ⟨_, rfl⟩
        rw [hy] at h1 HSX ⊢
        clear hx hy
        go_wp2
        go_roundw
        case rel => exact ⟨k + 1, by omega, by go_num, by rw [HSX.out], trivial⟩
        case measure => simp [intOf]; omega
      · obtain rfl : k = 9 := by omega
        rw [vsum_all]
        have ht := HT.out
        have hd : (6 * t == 6 * t) = true := by simp
        go_wp2
        go_ret
        exact ⟨rfl, T4.out⟩
  · have hv : vmL t = [] := if_neg ht
    rw [hv] at O4
    obtain ⟨A, C, e1⟩ := Own.form O4.out
    subst e1
    clear hv O4
    by_cases h1 : t < 1
    · skip
      go_wp2_with fail
      refine (alive_any _ (G0.out.on T4.out)).mono ?_
      rintro e wz ⟨rfl, rfl⟩
      go_wp2
      go_ret
      exact ⟨rfl, T4.out⟩
    · have h5 : 5 < t := by omega
      go_wp2_with fail
      refine (alive_any _ (G0.out.on T4.out)).mono ?_
      rintro e wz ⟨rfl, rfl⟩
      go_wp2
      go_ret
      exact ⟨rfl, T4.out⟩
end Go.Proofs.YtimkmdedoacpfabDoor
