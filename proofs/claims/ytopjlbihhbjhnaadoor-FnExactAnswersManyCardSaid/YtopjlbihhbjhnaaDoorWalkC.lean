/- Contracts of impl's products, powers, logarithms and inverses. -/
import Derived.Test.YtopjlbihhbjhnaaDoorWalkB
namespace Go.Proofs.YtopjlbihhbjhnaaDoor
open Go.RowKit

theorem ret_int {k : IntKind} {a b : Int} (h : a = b) : Ending.returned (.int k a) = .returned (.int k b) := by rw [h]
theorem ret_bool {a b : Bool} (h : a = b) : Ending.returned (.bool a) = .returned (.bool b) := by rw [h]

theorem iex_any (g n : Int) (w : World) (G : Gr w) : Calls Tryd.prog 72 #[.int .i64 g, .int .i64 n] w fun e w' => e = .returned (.bool (exB g n)) ∧ w = w' := by
  by_cases hg : 0 ≤ g ∧ g < 4
  · obtain ⟨c0, c1, c2, c3, c4, c5, c6, c7, c8, c9, c10, c11⟩ := G
    by_cases hn : 0 ≤ n
    · by_cases h1 : n < ord g
      · have HX := Lib.hid (exB_true.2 ⟨hg, hn, h1⟩)
        obtain ⟨h0, h4⟩ := hg
        rcases g_cases h0 h4 with rfl | rfl | rfl | rfl <;> clear h0 h4
        all_goals
          simp [ord] at h1
          have hd := decide_eq_true h1
          go_enter Tryd.func72, Tryd.ntmps72
          go_wp2_with (go_at_call 90; refine (groupOk_any _ _).mono ?_; rintro e w1 ⟨rfl, rfl⟩)
          go_ret
          exact ⟨by rw [HX.out]; rfl, rfl⟩
      · have HX := Lib.hid (exB_false (g := g).2 (fun h => h1 h.2.2))
        obtain ⟨h0, h4⟩ := hg
        rcases g_cases h0 h4 with rfl | rfl | rfl | rfl <;> clear h0 h4
        all_goals
          simp [ord] at h1
          have hd := decide_eq_false (Int.not_lt.2 h1)
          go_enter Tryd.func72, Tryd.ntmps72
          go_wp2_with (go_at_call 90; refine (groupOk_any _ _).mono ?_; rintro e w1 ⟨rfl, rfl⟩)
          go_ret
          exact ⟨by rw [HX.out]; rfl, rfl⟩
    · have HX := Lib.hid (exB_false (g := g).2 (fun h => hn h.2.1))
      have hb : gok g = true := gok_true.2 hg
      go_enter Tryd.func72, Tryd.ntmps72
      go_wp2_with (go_at_call 90; refine (groupOk_any _ _).mono ?_; rintro e w1 ⟨rfl, rfl⟩)
      go_ret
      exact ⟨by rw [HX.out]; rfl, rfl⟩
  · have hb : gok g = false := gok_false.2 hg
    have HX := Lib.hid (exB_none hg n)
    clear G hg
    go_enter Tryd.func72, Tryd.ntmps72
    go_wp2_with (go_at_call 90; refine (groupOk_any _ _).mono ?_; rintro e w1 ⟨rfl, rfl⟩)
    go_ret
    exact ⟨by rw [HX.out]; rfl, rfl⟩

theorem irem_any (n q : Int) (w : World) (h1 : -9999 ≤ n) (h2 : n ≤ 9999) (q1 : 1 ≤ q) (q2 : q ≤ 100) : Calls Tryd.prog 73 #[.int .i64 n, .int .i64 q] w fun e w' => e = .returned (.int .i64 (n % q)) ∧ w = w' := by
  obtain ⟨b1, b2⟩ := tmod_bd n q (by omega)
  have HR := Lib.hid (rem_eq n q)
  have hq : (q == 0) = false := by simp; omega
  by_cases hn : 0 ≤ n
  · have HT := Lib.hid (Int.tmod_eq_emod_of_nonneg (b := q) hn)
    have k1 := Int.emod_nonneg n (show q ≠ 0 by omega)
    have k2 := Int.emod_lt_of_pos n (show 0 < q by omega)
    go_enter Tryd.func73, Tryd.ntmps73
    go_wp2
    go_ret
    exact ⟨ret_int (by have := HR.out; rw [HT.out] at this; exact this), rfl⟩
  · go_enter Tryd.func73, Tryd.ntmps73
    go_wp2
    go_ret
    exact ⟨ret_int (by have := HR.out; rwa [Int.add_emod_right] at this), rfl⟩

theorem itim_any (g a b : Int) (w : World) (G : Gr w) : Calls Tryd.prog 65 #[.int .i64 g, .int .i64 a, .int .i64 b] w fun e w' => e = .returned (.int .i64 (tim g a b)) ∧ ∃ m, w' = w.drewN m := by
  cases ha : elB g a
  · have HX := Lib.hid (tim_no1 (b := b) ha)
    go_enter Tryd.func65, Tryd.ntmps65
    go_wp2_with (go_at_call 87; refine (iel_any _ _ _ (by first | assumption | exact Gr.drewN ‹_› _)).mono ?_; rintro e w1 ⟨rfl, m, rfl⟩)
    go_ret
    exact ⟨by rw [HX.out]; rfl, _, rfl⟩
  · cases hb : elB g b
    · have HX := Lib.hid (tim_no2 (a := a) hb)
      go_enter Tryd.func65, Tryd.ntmps65
      go_wp2_with (go_at_call 87; refine (iel_any _ _ _ (by first | assumption | exact Gr.drewN ‹_› _)).mono ?_; rintro e w1 ⟨rfl, m, rfl⟩)
      go_ret
      exact ⟨by rw [HX.out]; rfl, _, rfl⟩
    · have HX := Lib.hid (tim_yes ha hb)
      obtain ⟨a1, a2, a3⟩ := elB_bound ha
      obtain ⟨b1, b2, b3⟩ := elB_bound hb
      obtain ⟨h0, h4⟩ := elB_group ha
      have p0 : 0 ≤ a * b := Int.mul_nonneg (by omega) (by omega)
      have p1 : a * b ≤ 47 * 47 := Int.mul_le_mul (by omega) (by omega) (by omega) (by omega)
      have G' := G
      obtain ⟨c0, c1, c2, c3, c4, c5, c6, c7, c8, c9, c10, c11⟩ := G'
      clear a2 b2
      rcases g_cases h0 h4 with rfl | rfl | rfl | rfl <;> clear h0 h4
      all_goals
        go_enter Tryd.func65, Tryd.ntmps65
        go_wp2_with (go_at_call 87; refine (iel_any _ _ _ (by first | assumption | exact Gr.drewN ‹_› _)).mono ?_; rintro e w1 ⟨rfl, m, rfl⟩)
        go_ret
        exact ⟨by rw [HX.out]; rfl, _, rfl⟩

theorem ipow_any (g a n : Int) (w : World) (G : Gr w) : Calls Tryd.prog 66 #[.int .i64 g, .int .i64 a, .int .i64 n] w fun e w' => e = .returned (.int .i64 (gpow g a n)) ∧ ∃ m, w' = w.drewN m := by
  cases ha : elB g a
  · have HX := Lib.hid (gpow_no1 (n := n) ha)
    go_enter Tryd.func66, Tryd.ntmps66
    go_wp2_with (go_at_call 87; refine (iel_any _ _ _ (by first | assumption | exact Gr.drewN ‹_› _)).mono ?_; rintro e w1 ⟨rfl, m, rfl⟩)
    go_ret
    exact ⟨by rw [HX.out]; rfl, _, rfl⟩
  · by_cases h1 : -9999 ≤ n
    · by_cases h2 : n ≤ 9999
      · have HX := Lib.hid (gpow_yes ha h1 h2)
        obtain ⟨a1, a2, a3⟩ := elB_bound ha
        obtain ⟨h0, h4⟩ := elB_group ha
        have G' := G
        obtain ⟨c0, c1, c2, c3, c4, c5, c6, c7, c8, c9, c10, c11⟩ := G'
        clear a2
        rcases g_cases h0 h4 with rfl | rfl | rfl | rfl <;> clear h0 h4
        · obtain ⟨r, hr⟩ : ∃ r : Nat, n % 3 = r := ⟨(n % 3).toNat, by omega⟩
          have hr2 : r < 3 := by omega
          have HR := Lib.hid hr; clear hr
          go_enter Tryd.func66, Tryd.ntmps66
          go_wp2_with (first | (go_at_call 87; refine (iel_any _ _ _ (by first | assumption | exact Gr.drewN ‹_› _)).mono ?_; rintro e w1 ⟨rfl, m, rfl⟩) | (go_at_call 73; refine (irem_any _ _ _ (by omega) (by omega) (by omega) (by omega)).mono ?_; rintro e w1 ⟨rfl, rfl⟩))
          rw [HR.out]
          go_wp2
          go_loopw [7, 26] (fun x n wr => ∃ k : Nat, k ≤ r ∧ n = .int .i64 k ∧ x = .int .i64 (pw 7 a k) ∧ ∃ m, wr = w.drewN m) (fun _ n _ => r - (intOf n).toNat)
          case atStart => exact ⟨0, by omega, rfl, rfl, _, rfl⟩
          case round =>
            obtain ⟨k, hk, rfl, rfl, m, rfl⟩ := hrel
            obtain ⟨hb0, hb1⟩ := pw_bound 7 a (by omega) k
            have p0 : 0 ≤ pw 7 a k * a := Int.mul_nonneg (by omega) (by omega)
            have p1 : pw 7 a k * a ≤ 47 * 47 := Int.mul_le_mul (by omega) (by omega) (by omega) (by omega)
            have hs := Lib.hid (pw_succ 7 a k)
            by_cases hlt : k < r
            · go_wp2
              go_roundw
              case rel => exact ⟨k + 1, by omega, by go_num, by rw [hs.out], _, rfl⟩
              case measure => simp [intOf]; omega
            · obtain rfl : k = r := by omega
              go_wp2
              go_ret
              exact ⟨ret_int (by rw [HX.out, show ord 0 = 3 from rfl, HR.out]; rfl), m, rfl⟩
        · obtain ⟨r, hr⟩ : ∃ r : Nat, n % 5 = r := ⟨(n % 5).toNat, by omega⟩
          have hr2 : r < 5 := by omega
          have HR := Lib.hid hr; clear hr
          go_enter Tryd.func66, Tryd.ntmps66
          go_wp2_with (first | (go_at_call 87; refine (iel_any _ _ _ (by first | assumption | exact Gr.drewN ‹_› _)).mono ?_; rintro e w1 ⟨rfl, m, rfl⟩) | (go_at_call 73; refine (irem_any _ _ _ (by omega) (by omega) (by omega) (by omega)).mono ?_; rintro e w1 ⟨rfl, rfl⟩))
          rw [HR.out]
          go_wp2
          go_loopw [7, 26] (fun x n wr => ∃ k : Nat, k ≤ r ∧ n = .int .i64 k ∧ x = .int .i64 (pw 11 a k) ∧ ∃ m, wr = w.drewN m) (fun _ n _ => r - (intOf n).toNat)
          case atStart => exact ⟨0, by omega, rfl, rfl, _, rfl⟩
          case round =>
            obtain ⟨k, hk, rfl, rfl, m, rfl⟩ := hrel
            obtain ⟨hb0, hb1⟩ := pw_bound 11 a (by omega) k
            have p0 : 0 ≤ pw 11 a k * a := Int.mul_nonneg (by omega) (by omega)
            have p1 : pw 11 a k * a ≤ 47 * 47 := Int.mul_le_mul (by omega) (by omega) (by omega) (by omega)
            have hs := Lib.hid (pw_succ 11 a k)
            by_cases hlt : k < r
            · go_wp2
              go_roundw
              case rel => exact ⟨k + 1, by omega, by go_num, by rw [hs.out], _, rfl⟩
              case measure => simp [intOf]; omega
            · obtain rfl : k = r := by omega
              go_wp2
              go_ret
              exact ⟨ret_int (by rw [HX.out, show ord 1 = 5 from rfl, HR.out]; rfl), m, rfl⟩
        · obtain ⟨r, hr⟩ : ∃ r : Nat, n % 11 = r := ⟨(n % 11).toNat, by omega⟩
          have hr2 : r < 11 := by omega
          have HR := Lib.hid hr; clear hr
          go_enter Tryd.func66, Tryd.ntmps66
          go_wp2_with (first | (go_at_call 87; refine (iel_any _ _ _ (by first | assumption | exact Gr.drewN ‹_› _)).mono ?_; rintro e w1 ⟨rfl, m, rfl⟩) | (go_at_call 73; refine (irem_any _ _ _ (by omega) (by omega) (by omega) (by omega)).mono ?_; rintro e w1 ⟨rfl, rfl⟩))
          rw [HR.out]
          go_wp2
          go_loopw [7, 26] (fun x n wr => ∃ k : Nat, k ≤ r ∧ n = .int .i64 k ∧ x = .int .i64 (pw 23 a k) ∧ ∃ m, wr = w.drewN m) (fun _ n _ => r - (intOf n).toNat)
          case atStart => exact ⟨0, by omega, rfl, rfl, _, rfl⟩
          case round =>
            obtain ⟨k, hk, rfl, rfl, m, rfl⟩ := hrel
            obtain ⟨hb0, hb1⟩ := pw_bound 23 a (by omega) k
            have p0 : 0 ≤ pw 23 a k * a := Int.mul_nonneg (by omega) (by omega)
            have p1 : pw 23 a k * a ≤ 47 * 47 := Int.mul_le_mul (by omega) (by omega) (by omega) (by omega)
            have hs := Lib.hid (pw_succ 23 a k)
            by_cases hlt : k < r
            · go_wp2
              go_roundw
              case rel => exact ⟨k + 1, by omega, by go_num, by rw [hs.out], _, rfl⟩
              case measure => simp [intOf]; omega
            · obtain rfl : k = r := by omega
              go_wp2
              go_ret
              exact ⟨ret_int (by rw [HX.out, show ord 2 = 11 from rfl, HR.out]; rfl), m, rfl⟩
        · obtain ⟨r, hr⟩ : ∃ r : Nat, n % 23 = r := ⟨(n % 23).toNat, by omega⟩
          have hr2 : r < 23 := by omega
          have HR := Lib.hid hr; clear hr
          go_enter Tryd.func66, Tryd.ntmps66
          go_wp2_with (first | (go_at_call 87; refine (iel_any _ _ _ (by first | assumption | exact Gr.drewN ‹_› _)).mono ?_; rintro e w1 ⟨rfl, m, rfl⟩) | (go_at_call 73; refine (irem_any _ _ _ (by omega) (by omega) (by omega) (by omega)).mono ?_; rintro e w1 ⟨rfl, rfl⟩))
          rw [HR.out]
          go_wp2
          go_loopw [7, 26] (fun x n wr => ∃ k : Nat, k ≤ r ∧ n = .int .i64 k ∧ x = .int .i64 (pw 47 a k) ∧ ∃ m, wr = w.drewN m) (fun _ n _ => r - (intOf n).toNat)
          case atStart => exact ⟨0, by omega, rfl, rfl, _, rfl⟩
          case round =>
            obtain ⟨k, hk, rfl, rfl, m, rfl⟩ := hrel
            obtain ⟨hb0, hb1⟩ := pw_bound 47 a (by omega) k
            have p0 : 0 ≤ pw 47 a k * a := Int.mul_nonneg (by omega) (by omega)
            have p1 : pw 47 a k * a ≤ 47 * 47 := Int.mul_le_mul (by omega) (by omega) (by omega) (by omega)
            have hs := Lib.hid (pw_succ 47 a k)
            by_cases hlt : k < r
            · go_wp2
              go_roundw
              case rel => exact ⟨k + 1, by omega, by go_num, by rw [hs.out], _, rfl⟩
              case measure => simp [intOf]; omega
            · obtain rfl : k = r := by omega
              go_wp2
              go_ret
              exact ⟨ret_int (by rw [HX.out, show ord 3 = 23 from rfl, HR.out]; rfl), m, rfl⟩
      · have HX := Lib.hid (gpow_no2 (g := g) (a := a) (fun h : -9999 ≤ n ∧ n ≤ 9999 => h2 h.2))
        go_enter Tryd.func66, Tryd.ntmps66
        go_wp2_with (go_at_call 87; refine (iel_any _ _ _ (by first | assumption | exact Gr.drewN ‹_› _)).mono ?_; rintro e w1 ⟨rfl, m, rfl⟩)
        go_ret
        exact ⟨by rw [HX.out]; rfl, _, rfl⟩
    · have HX := Lib.hid (gpow_no2 (g := g) (a := a) (fun h : -9999 ≤ n ∧ n ≤ 9999 => h1 h.1))
      go_enter Tryd.func66, Tryd.ntmps66
      go_wp2_with (go_at_call 87; refine (iel_any _ _ _ (by first | assumption | exact Gr.drewN ‹_› _)).mono ?_; rintro e w1 ⟨rfl, m, rfl⟩)
      go_ret
      exact ⟨by rw [HX.out]; rfl, _, rfl⟩

theorem iback_any (g n : Int) (w : World) (G : Gr w) : Calls Tryd.prog 85 #[.int .i64 g, .int .i64 n] w fun e w' => e = .returned (.int .i64 (gback g n)) ∧ w = w' := by
  cases hx : exB g n
  · have HX := Lib.hid (gback_no hx)
    go_enter Tryd.func85, Tryd.ntmps85
    go_wp2_with (go_at_call 72; refine (iex_any _ _ _ (by first | assumption | exact Gr.drewN ‹_› _)).mono ?_; rintro e w1 ⟨rfl, rfl⟩)
    go_ret
    exact ⟨by rw [HX.out]; rfl, rfl⟩
  · have HH := Lib.hid (fun (k : Nat) => gback_hit (k := k) hx)
    have HM := Lib.hid (@gback_miss g n)
    obtain ⟨⟨h0, h4⟩, n0, n1⟩ := exB_true.1 hx
    have G' := G
    obtain ⟨c0, c1, c2, c3, c4, c5, c6, c7, c8, c9, c10, c11⟩ := G'
    rcases g_cases h0 h4 with rfl | rfl | rfl | rfl <;> clear h0 h4 <;> simp [ord] at n1
    · go_enter Tryd.func85, Tryd.ntmps85
      go_wp2_with (go_at_call 72; refine (iex_any _ _ _ (by first | assumption | exact Gr.drewN ‹_› _)).mono ?_; rintro e w1 ⟨rfl, rfl⟩)
      go_loop [14] (fun x => ∃ k : Nat, k ≤ 3 ∧ x = .int .i64 k ∧ NoneR 3 n k) (fun x => 3 - (intOf x).toNat)
      case atStart => exact ⟨0, by omega, rfl, NoneR.zero _ _⟩
      case round =>
        obtain ⟨k, hk, rfl, hn⟩ := hrel
        have p0 : 0 ≤ n * (k : Int) := Int.mul_nonneg (by omega) (by omega)
        have p1 : n * (k : Int) ≤ 23 * 23 := Int.mul_le_mul (by omega) (by omega) (by omega) (by omega)
        by_cases hlt : k < 3
        · by_cases he : n * (k : Int) % 3 = 1
          · have HT := Lib.hid (HH.out k hlt hn he)
            have he' : (n * (k : Int) % 3 == 1) = true := by simpa using he
            clear he hn
            go_wp2
            go_ret
            exact ⟨ret_int HT.out.symm, rfl⟩
          · have hne : (n * (k : Int) % 3 == 1) = false := by simpa using he
            have hn' := hn.succ he
            clear hn he
            go_wp2
            go_round
            case rel => exact ⟨k + 1, by omega, by go_num, hn'⟩
            case measure => simp [intOf]; omega
        · obtain rfl : k = 3 := by omega
          have HF := Lib.hid (HM.out hn)
          clear hn
          go_wp2
          go_ret
          exact ⟨ret_int HF.out.symm, rfl⟩
    · go_enter Tryd.func85, Tryd.ntmps85
      go_wp2_with (go_at_call 72; refine (iex_any _ _ _ (by first | assumption | exact Gr.drewN ‹_› _)).mono ?_; rintro e w1 ⟨rfl, rfl⟩)
      go_loop [14] (fun x => ∃ k : Nat, k ≤ 5 ∧ x = .int .i64 k ∧ NoneR 5 n k) (fun x => 5 - (intOf x).toNat)
      case atStart => exact ⟨0, by omega, rfl, NoneR.zero _ _⟩
      case round =>
        obtain ⟨k, hk, rfl, hn⟩ := hrel
        have p0 : 0 ≤ n * (k : Int) := Int.mul_nonneg (by omega) (by omega)
        have p1 : n * (k : Int) ≤ 23 * 23 := Int.mul_le_mul (by omega) (by omega) (by omega) (by omega)
        by_cases hlt : k < 5
        · by_cases he : n * (k : Int) % 5 = 1
          · have HT := Lib.hid (HH.out k hlt hn he)
            have he' : (n * (k : Int) % 5 == 1) = true := by simpa using he
            clear he hn
            go_wp2
            go_ret
            exact ⟨ret_int HT.out.symm, rfl⟩
          · have hne : (n * (k : Int) % 5 == 1) = false := by simpa using he
            have hn' := hn.succ he
            clear hn he
            go_wp2
            go_round
            case rel => exact ⟨k + 1, by omega, by go_num, hn'⟩
            case measure => simp [intOf]; omega
        · obtain rfl : k = 5 := by omega
          have HF := Lib.hid (HM.out hn)
          clear hn
          go_wp2
          go_ret
          exact ⟨ret_int HF.out.symm, rfl⟩
    · go_enter Tryd.func85, Tryd.ntmps85
      go_wp2_with (go_at_call 72; refine (iex_any _ _ _ (by first | assumption | exact Gr.drewN ‹_› _)).mono ?_; rintro e w1 ⟨rfl, rfl⟩)
      go_loop [14] (fun x => ∃ k : Nat, k ≤ 11 ∧ x = .int .i64 k ∧ NoneR 11 n k) (fun x => 11 - (intOf x).toNat)
      case atStart => exact ⟨0, by omega, rfl, NoneR.zero _ _⟩
      case round =>
        obtain ⟨k, hk, rfl, hn⟩ := hrel
        have p0 : 0 ≤ n * (k : Int) := Int.mul_nonneg (by omega) (by omega)
        have p1 : n * (k : Int) ≤ 23 * 23 := Int.mul_le_mul (by omega) (by omega) (by omega) (by omega)
        by_cases hlt : k < 11
        · by_cases he : n * (k : Int) % 11 = 1
          · have HT := Lib.hid (HH.out k hlt hn he)
            have he' : (n * (k : Int) % 11 == 1) = true := by simpa using he
            clear he hn
            go_wp2
            go_ret
            exact ⟨ret_int HT.out.symm, rfl⟩
          · have hne : (n * (k : Int) % 11 == 1) = false := by simpa using he
            have hn' := hn.succ he
            clear hn he
            go_wp2
            go_round
            case rel => exact ⟨k + 1, by omega, by go_num, hn'⟩
            case measure => simp [intOf]; omega
        · obtain rfl : k = 11 := by omega
          have HF := Lib.hid (HM.out hn)
          clear hn
          go_wp2
          go_ret
          exact ⟨ret_int HF.out.symm, rfl⟩
    · go_enter Tryd.func85, Tryd.ntmps85
      go_wp2_with (go_at_call 72; refine (iex_any _ _ _ (by first | assumption | exact Gr.drewN ‹_› _)).mono ?_; rintro e w1 ⟨rfl, rfl⟩)
      go_loop [14] (fun x => ∃ k : Nat, k ≤ 23 ∧ x = .int .i64 k ∧ NoneR 23 n k) (fun x => 23 - (intOf x).toNat)
      case atStart => exact ⟨0, by omega, rfl, NoneR.zero _ _⟩
      case round =>
        obtain ⟨k, hk, rfl, hn⟩ := hrel
        have p0 : 0 ≤ n * (k : Int) := Int.mul_nonneg (by omega) (by omega)
        have p1 : n * (k : Int) ≤ 23 * 23 := Int.mul_le_mul (by omega) (by omega) (by omega) (by omega)
        by_cases hlt : k < 23
        · by_cases he : n * (k : Int) % 23 = 1
          · have HT := Lib.hid (HH.out k hlt hn he)
            have he' : (n * (k : Int) % 23 == 1) = true := by simpa using he
            clear he hn
            go_wp2
            go_ret
            exact ⟨ret_int HT.out.symm, rfl⟩
          · have hne : (n * (k : Int) % 23 == 1) = false := by simpa using he
            have hn' := hn.succ he
            clear hn he
            go_wp2
            go_round
            case rel => exact ⟨k + 1, by omega, by go_num, hn'⟩
            case measure => simp [intOf]; omega
        · obtain rfl : k = 23 := by omega
          have HF := Lib.hid (HM.out hn)
          clear hn
          go_wp2
          go_ret
          exact ⟨ret_int HF.out.symm, rfl⟩

end Go.Proofs.YtopjlbihhbjhnaaDoor
