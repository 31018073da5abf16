/- Contracts of spec's numbers: remainders, powers, elements, exponents, logarithms, inverses. -/
import Derived.Test.YtopjlbihhbjhnaaDoorWalkC
namespace Go.Proofs.YtopjlbihhbjhnaaDoor
open Go.RowKit

/-- Two calls, one behind the other, each of which leaves all that it found. -/
theorem Below.on {a b c : World} (h : Below a.heap.size a b) (k : Below b.heap.size b c) : Below a.heap.size a c := h.trans (k.mono h.size)

theorem smod_any (n q : Int) (w : World) (h1 : -9999 ≤ n) (h2 : n ≤ 9999) (q1 : 1 ≤ q) (q2 : q ≤ 100) : Calls Tryd.prog 52 #[.int .i64 n, .int .i64 q] w fun e w' => e = .returned (.int .i64 (n % q)) ∧ w = w' := by
  obtain ⟨b1, b2⟩ := tmod_bd n q (by omega)
  have HR := Lib.hid (rem_eq n q)
  have hq : (q == 0) = false := by simp; omega
  by_cases hn : 0 ≤ n
  · have HT := Lib.hid (Int.tmod_eq_emod_of_nonneg (b := q) hn)
    have k1 := Int.emod_nonneg n (show q ≠ 0 by omega)
    have k2 := Int.emod_lt_of_pos n (show 0 < q by omega)
    go_enter Tryd.func52, Tryd.ntmps52
    go_wp2
    go_ret
    exact ⟨ret_int (by have := HR.out; rw [HT.out] at this; exact this), rfl⟩
  · go_enter Tryd.func52, Tryd.ntmps52
    go_wp2
    go_ret
    exact ⟨ret_int (by have := HR.out; rwa [Int.add_emod_right] at this), rfl⟩

theorem spw_any (p a n : Int) (w : World) (p1 : 1 < p) (p2 : p ≤ 100) (a0 : 0 ≤ a) (a1 : a ≤ 100) (n0 : 0 ≤ n) (n1 : n ≤ 10000) : Calls Tryd.prog 83 #[.int .i64 p, .int .i64 a, .int .i64 n] w fun e w' => e = .returned (.int .i64 (pw p a n.toNat)) ∧ w = w' := by
  obtain ⟨r, rfl⟩ := Int.eq_ofNat_of_zero_le n0
  rw [Int.toNat_natCast]
  have hp : (p == 0) = false := by simp; omega
  go_enter Tryd.func83, Tryd.ntmps83
  go_wp2
  go_loop [7, 8] (fun x n => ∃ k : Nat, k ≤ r ∧ n = .int .i64 k ∧ x = .int .i64 (pw p a k)) (fun _ n => r - (intOf n).toNat)
  case atStart => exact ⟨0, by omega, rfl, rfl⟩
  case round =>
    obtain ⟨k, hk, rfl, rfl⟩ := hrel
    obtain ⟨hb0, hb1⟩ := pw_bound p a (by omega) k
    have q0 : 0 ≤ pw p a k * a := Int.mul_nonneg (by omega) (by omega)
    have q1 : pw p a k * a ≤ 100 * 100 := Int.mul_le_mul (by omega) (by omega) (by omega) (by omega)
    have hs := Lib.hid (pw_succ p a k)
    by_cases hlt : k < r
    · go_wp2
      go_round
      case rel => exact ⟨k + 1, by omega, by go_num, by rw [hs.out]⟩
      case measure => simp [intOf]; omega
    · obtain rfl : k = r := by omega
      go_wp2
      go_ret
      exact ⟨rfl, rfl⟩

theorem stms_any (g a b : Int) (w : World) (h0 : 0 ≤ g) (h4 : g < 4) (a0 : 0 ≤ a) (a1 : a ≤ 100) (b0 : 0 ≤ b) (b1 : b ≤ 100) : Calls Tryd.prog 74 #[.int .i64 g, .int .i64 a, .int .i64 b] w fun e w' => e = .returned (.int .i64 (a * b % prm g)) ∧ Below w.heap.size w w' := by
  obtain ⟨p1, p2⟩ := prm_bd h0 h4
  have hp : (prm g == 0) = false := by simp; omega
  have q0 : 0 ≤ a * b := Int.mul_nonneg (by omega) (by omega)
  have q1 : a * b ≤ 100 * 100 := Int.mul_le_mul (by omega) (by omega) (by omega) (by omega)
  go_enter Tryd.func74, Tryd.ntmps74
  go_wp2_with (go_at_call 86; refine (sprm_any _ _).mono ?_; rintro e w1 ⟨rfl, hb⟩)
  go_ret
  exact ⟨rfl, hb⟩

theorem spow_any (g a n : Int) (w : World) (h0 : 0 ≤ g) (h4 : g < 4) (a0 : 0 ≤ a) (a1 : a ≤ 100) (n0 : -9999 ≤ n) (n1 : n ≤ 9999) : Calls Tryd.prog 75 #[.int .i64 g, .int .i64 a, .int .i64 n] w fun e w' => e = .returned (.int .i64 (pw (prm g) a (n % ord g).toNat)) ∧ Below w.heap.size w w' := by
  obtain ⟨p1, p2⟩ := prm_bd h0 h4
  obtain ⟨q1, q2⟩ := ord_bd h0 h4
  have k1 := Int.emod_nonneg n (show ord g ≠ 0 by omega)
  have k2 := Int.emod_lt_of_pos n (show 0 < ord g by omega)
  go_enter Tryd.func75, Tryd.ntmps75
  go_wp2_with fail
  refine (sprm_any _ _).mono ?_
  rintro e w1 ⟨rfl, hb1⟩
  go_wp2_with fail
  refine (sord_any _ _).mono ?_
  rintro e w2 ⟨rfl, hb2⟩
  go_wp2_with fail
  refine (smod_any _ _ _ (by omega) (by omega) (by omega) (by omega)).mono ?_
  rintro e w3 ⟨rfl, rfl⟩
  go_wp2_with fail
  refine (spw_any _ _ _ _ (by omega) (by omega) (by omega) (by omega) (by omega) (by omega)).mono ?_
  rintro e w3 ⟨rfl, rfl⟩
  go_wp2
  go_ret
  exact ⟨rfl, Below.on hb1 hb2⟩

theorem sel_any (g a : Int) (w : World) : Calls Tryd.prog 59 #[.int .i64 g, .int .i64 a] w fun e w' => e = .returned (.bool (elB g a)) ∧ Below w.heap.size w w' := by
  by_cases hg : 0 ≤ g ∧ g < 4
  · obtain ⟨h0, h4⟩ := hg
    have hd : (decide (0 ≤ g) && decide (g ≤ 3)) = true := by simp; omega
    have hd1 : decide (0 ≤ g) = true := by simp; omega
    have hd2 : decide (g ≤ 3) = true := by simp; omega
    obtain ⟨p1, p2⟩ := prm_bd h0 h4
    obtain ⟨q1, q2⟩ := ord_bd h0 h4
    by_cases ha : 1 ≤ a ∧ a < prm g
    · obtain ⟨a1, a2⟩ := ha
      have hr : (decide (1 ≤ a) && decide (a ≤ prm g - 1)) = true := by simp; omega
      have hr1 : decide (1 ≤ a) = true := by simp; omega
      have hr2 : decide (a ≤ prm g - 1) = true := by simp; omega
      have HX := Lib.hid (elB_pow h0 h4 a1 a2)
      go_enter Tryd.func59, Tryd.ntmps59
      go_wp2_with fail
      refine (l1In_any _ _ _ _).mono ?_
      rintro e w1 ⟨rfl, rfl⟩
      go_wp2_with fail
      refine (sprm_any _ _).mono ?_
      rintro e w1 ⟨rfl, hb1⟩
      go_wp2_with fail
      refine (l1In_any _ _ _ _).mono ?_
      rintro e w2 ⟨rfl, rfl⟩
      go_wp2_with fail
      refine (sprm_any _ _).mono ?_
      rintro e w2 ⟨rfl, hb2⟩
      go_wp2_with fail
      refine (sord_any _ _).mono ?_
      rintro e w3 ⟨rfl, hb3⟩
      go_wp2_with fail
      refine (spw_any _ _ _ _ (by omega) (by omega) (by omega) (by omega) (by omega) (by omega)).mono ?_
      rintro e w4 ⟨rfl, rfl⟩
      go_wp2
      go_ret
      exact ⟨ret_bool HX.out.symm, Below.on hb1 (Below.on hb2 hb3)⟩
    · have hr : (decide (1 ≤ a) && decide (a ≤ prm g - 1)) = false := by simp; omega
      have HX := Lib.hid (elB_out ha)
      go_enter Tryd.func59, Tryd.ntmps59
      go_wp2_with fail
      refine (l1In_any _ _ _ _).mono ?_
      rintro e w1 ⟨rfl, rfl⟩
      go_wp2_with fail
      refine (sprm_any _ _).mono ?_
      rintro e w1 ⟨rfl, hb1⟩
      go_wp2_with fail
      refine (l1In_any _ _ _ _).mono ?_
      rintro e w2 ⟨rfl, rfl⟩
      go_wp2
      go_ret
      exact ⟨by rw [HX.out]; rfl, hb1⟩
  · have hd : (decide (0 ≤ g) && decide (g ≤ 3)) = false := by simp; omega
    have HX := Lib.hid (elB_none hg a)
    go_enter Tryd.func59, Tryd.ntmps59
    go_wp2_with fail
    refine (l1In_any _ _ _ _).mono ?_
    rintro e w1 ⟨rfl, rfl⟩
    go_wp2
    go_ret
    exact ⟨by rw [HX.out]; rfl, Below.refl _ _⟩

theorem sex_any (g n : Int) (w : World) : Calls Tryd.prog 71 #[.int .i64 g, .int .i64 n] w fun e w' => e = .returned (.bool (exB g n)) ∧ Below w.heap.size w w' := by
  by_cases hg : 0 ≤ g ∧ g < 4
  · have HX := Lib.hid (show exB g n = (decide (0 ≤ n) && decide (n ≤ ord g - 1)) by unfold exB; rw [gok_true.2 hg, Bool.true_and]; congr 1; simp; omega)
    obtain ⟨h0, h4⟩ := hg
    have hd : (decide (0 ≤ g) && decide (g ≤ 3)) = true := by simp; omega
    have hd1 : decide (0 ≤ g) = true := by simp; omega
    have hd2 : decide (g ≤ 3) = true := by simp; omega
    obtain ⟨q1, q2⟩ := ord_bd h0 h4
    go_enter Tryd.func71, Tryd.ntmps71
    go_wp2_with fail
    refine (l1In_any _ _ _ _).mono ?_
    rintro e w1 ⟨rfl, rfl⟩
    go_wp2_with fail
    refine (sord_any _ _).mono ?_
    rintro e w1 ⟨rfl, hb1⟩
    go_wp2_with fail
    refine (l1In_any _ _ _ _).mono ?_
    rintro e w2 ⟨rfl, rfl⟩
    go_wp2
    go_ret
    exact ⟨ret_bool HX.out.symm, hb1⟩
  · have hd : (decide (0 ≤ g) && decide (g ≤ 3)) = false := by simp; omega
    have HX := Lib.hid (exB_none hg n)
    go_enter Tryd.func71, Tryd.ntmps71
    go_wp2_with fail
    refine (l1In_any _ _ _ _).mono ?_
    rintro e w1 ⟨rfl, rfl⟩
    go_wp2
    go_ret
    exact ⟨by rw [HX.out]; rfl, Below.refl _ _⟩

end Go.Proofs.YtopjlbihhbjhnaaDoor
