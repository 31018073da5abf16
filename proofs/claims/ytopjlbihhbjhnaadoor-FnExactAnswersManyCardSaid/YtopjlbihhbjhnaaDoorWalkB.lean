/- Contracts of impl's functions on elements and exponents. -/
import Derived.Test.YtopjlbihhbjhnaaDoorWalkA
namespace Go.Proofs.YtopjlbihhbjhnaaDoor
open Go.RowKit

theorem Gr.drewN {w : World} (h : Gr w) (n : Nat) : Gr (w.drewN n) := ⟨h.c0, h.c1, h.c2, h.c3, h.c4, h.c5, h.c6, h.c7, h.c8, h.c9, h.c10, h.c11⟩
theorem drewN_zero (w : World) : w = w.drewN 0 := rfl

theorem iel0 (a : Int) (w : World) (G : Gr w) : Calls Tryd.prog 87 #[.int .i64 0, .int .i64 a] w fun e w' => e = .returned (.bool (elB 0 a)) ∧ ∃ m, w' = w.drewN m := by
  obtain ⟨c0, c1, c2, c3, c4, c5, c6, c7, c8, c9, c10, c11⟩ := G
  go_enter Tryd.func87, Tryd.ntmps87
  go_wp2_with (go_at_call 90; refine (groupOk_any _ _).mono ?_; rintro e w' ⟨rfl, rfl⟩)
  go_loopw [5, 13] (fun x n wr => ∃ k : Nat, k ≤ 3 ∧ n = .int .i64 k ∧ x = .int .i64 (pw 7 2 k) ∧ NoneB 7 2 a k ∧ ∃ m, wr = w.drewN m) (fun _ n _ => 3 - (intOf n).toNat)
  case atStart => exact ⟨0, by omega, rfl, rfl, NoneB.zero _ _ _, 0, rfl⟩
  case round =>
    obtain ⟨k, hk, rfl, rfl, hn, m, rfl⟩ := hrel
    obtain ⟨hb0, hb1⟩ := pw_bound 7 2 (by omega) k
    have hs := Lib.hid (pw_succ 7 2 k)
    by_cases hlt : k < 3
    · by_cases he : pw 7 2 k = a
      · have HT := Lib.hid (el_true (g := 0) (by decide) hlt he)
        subst he
        go_wp2
        go_ret
        exact ⟨by rw [HT.out]; rfl, m, rfl⟩
      · have hne : (pw 7 2 k == a) = false := by simpa using he
        have hn' := hn.succ he
        clear hn he
        go_wp2_with fail
        go_quiet (fail)
        go_wp2
        go_roundw
        case rel => exact ⟨k + 1, by omega, by go_num, by rw [hs.out], hn', _, rfl⟩
        case measure => simp [intOf]; omega
    · obtain rfl : k = 3 := by omega
      have HF := Lib.hid (el_false (g := 0) (by decide) hn)
      clear hn
      go_wp2
      go_ret
      exact ⟨by rw [HF.out]; rfl, m, rfl⟩

theorem iel1 (a : Int) (w : World) (G : Gr w) : Calls Tryd.prog 87 #[.int .i64 1, .int .i64 a] w fun e w' => e = .returned (.bool (elB 1 a)) ∧ ∃ m, w' = w.drewN m := by
  obtain ⟨c0, c1, c2, c3, c4, c5, c6, c7, c8, c9, c10, c11⟩ := G
  go_enter Tryd.func87, Tryd.ntmps87
  go_wp2_with (go_at_call 90; refine (groupOk_any _ _).mono ?_; rintro e w' ⟨rfl, rfl⟩)
  go_loopw [5, 13] (fun x n wr => ∃ k : Nat, k ≤ 5 ∧ n = .int .i64 k ∧ x = .int .i64 (pw 11 3 k) ∧ NoneB 11 3 a k ∧ ∃ m, wr = w.drewN m) (fun _ n _ => 5 - (intOf n).toNat)
  case atStart => exact ⟨0, by omega, rfl, rfl, NoneB.zero _ _ _, 0, rfl⟩
  case round =>
    obtain ⟨k, hk, rfl, rfl, hn, m, rfl⟩ := hrel
    obtain ⟨hb0, hb1⟩ := pw_bound 11 3 (by omega) k
    have hs := Lib.hid (pw_succ 11 3 k)
    by_cases hlt : k < 5
    · by_cases he : pw 11 3 k = a
      · have HT := Lib.hid (el_true (g := 1) (by decide) hlt he)
        subst he
        go_wp2
        go_ret
        exact ⟨by rw [HT.out]; rfl, m, rfl⟩
      · have hne : (pw 11 3 k == a) = false := by simpa using he
        have hn' := hn.succ he
        clear hn he
        go_wp2_with fail
        go_quiet (fail)
        go_wp2
        go_roundw
        case rel => exact ⟨k + 1, by omega, by go_num, by rw [hs.out], hn', _, rfl⟩
        case measure => simp [intOf]; omega
    · obtain rfl : k = 5 := by omega
      have HF := Lib.hid (el_false (g := 1) (by decide) hn)
      clear hn
      go_wp2
      go_ret
      exact ⟨by rw [HF.out]; rfl, m, rfl⟩

theorem iel2 (a : Int) (w : World) (G : Gr w) : Calls Tryd.prog 87 #[.int .i64 2, .int .i64 a] w fun e w' => e = .returned (.bool (elB 2 a)) ∧ ∃ m, w' = w.drewN m := by
  obtain ⟨c0, c1, c2, c3, c4, c5, c6, c7, c8, c9, c10, c11⟩ := G
  go_enter Tryd.func87, Tryd.ntmps87
  go_wp2_with (go_at_call 90; refine (groupOk_any _ _).mono ?_; rintro e w' ⟨rfl, rfl⟩)
  go_loopw [5, 13] (fun x n wr => ∃ k : Nat, k ≤ 11 ∧ n = .int .i64 k ∧ x = .int .i64 (pw 23 2 k) ∧ NoneB 23 2 a k ∧ ∃ m, wr = w.drewN m) (fun _ n _ => 11 - (intOf n).toNat)
  case atStart => exact ⟨0, by omega, rfl, rfl, NoneB.zero _ _ _, 0, rfl⟩
  case round =>
    obtain ⟨k, hk, rfl, rfl, hn, m, rfl⟩ := hrel
    obtain ⟨hb0, hb1⟩ := pw_bound 23 2 (by omega) k
    have hs := Lib.hid (pw_succ 23 2 k)
    by_cases hlt : k < 11
    · by_cases he : pw 23 2 k = a
      · have HT := Lib.hid (el_true (g := 2) (by decide) hlt he)
        subst he
        go_wp2
        go_ret
        exact ⟨by rw [HT.out]; rfl, m, rfl⟩
      · have hne : (pw 23 2 k == a) = false := by simpa using he
        have hn' := hn.succ he
        clear hn he
        go_wp2_with fail
        go_quiet (fail)
        go_wp2
        go_roundw
        case rel => exact ⟨k + 1, by omega, by go_num, by rw [hs.out], hn', _, rfl⟩
        case measure => simp [intOf]; omega
    · obtain rfl : k = 11 := by omega
      have HF := Lib.hid (el_false (g := 2) (by decide) hn)
      clear hn
      go_wp2
      go_ret
      exact ⟨by rw [HF.out]; rfl, m, rfl⟩

theorem iel3 (a : Int) (w : World) (G : Gr w) : Calls Tryd.prog 87 #[.int .i64 3, .int .i64 a] w fun e w' => e = .returned (.bool (elB 3 a)) ∧ ∃ m, w' = w.drewN m := by
  obtain ⟨c0, c1, c2, c3, c4, c5, c6, c7, c8, c9, c10, c11⟩ := G
  go_enter Tryd.func87, Tryd.ntmps87
  go_wp2_with (go_at_call 90; refine (groupOk_any _ _).mono ?_; rintro e w' ⟨rfl, rfl⟩)
  go_loopw [5, 13] (fun x n wr => ∃ k : Nat, k ≤ 23 ∧ n = .int .i64 k ∧ x = .int .i64 (pw 47 2 k) ∧ NoneB 47 2 a k ∧ ∃ m, wr = w.drewN m) (fun _ n _ => 23 - (intOf n).toNat)
  case atStart => exact ⟨0, by omega, rfl, rfl, NoneB.zero _ _ _, 0, rfl⟩
  case round =>
    obtain ⟨k, hk, rfl, rfl, hn, m, rfl⟩ := hrel
    obtain ⟨hb0, hb1⟩ := pw_bound 47 2 (by omega) k
    have hs := Lib.hid (pw_succ 47 2 k)
    by_cases hlt : k < 23
    · by_cases he : pw 47 2 k = a
      · have HT := Lib.hid (el_true (g := 3) (by decide) hlt he)
        subst he
        go_wp2
        go_ret
        exact ⟨by rw [HT.out]; rfl, m, rfl⟩
      · have hne : (pw 47 2 k == a) = false := by simpa using he
        have hn' := hn.succ he
        clear hn he
        go_wp2_with fail
        go_quiet (fail)
        go_wp2
        go_roundw
        case rel => exact ⟨k + 1, by omega, by go_num, by rw [hs.out], hn', _, rfl⟩
        case measure => simp [intOf]; omega
    · obtain rfl : k = 23 := by omega
      have HF := Lib.hid (el_false (g := 3) (by decide) hn)
      clear hn
      go_wp2
      go_ret
      exact ⟨by rw [HF.out]; rfl, m, rfl⟩

theorem iel_any (g a : Int) (w : World) (G : Gr w) : Calls Tryd.prog 87 #[.int .i64 g, .int .i64 a] w fun e w' => e = .returned (.bool (elB g a)) ∧ ∃ m, w' = w.drewN m := by
  by_cases hg : 0 ≤ g ∧ g < 4
  · obtain ⟨h0, h4⟩ := hg
    rcases g_cases h0 h4 with rfl | rfl | rfl | rfl
    · exact iel0 a w G
    · exact iel1 a w G
    · exact iel2 a w G
    · exact iel3 a w G
  · have hb : gok g = false := gok_false.2 hg
    have HN := Lib.hid (elB_none hg a)
    clear G hg
    go_enter Tryd.func87, Tryd.ntmps87
    go_wp2_with (go_at_call 90; refine (groupOk_any _ _).mono ?_; rintro e w' ⟨rfl, rfl⟩)
    go_ret
    exact ⟨by rw [HN.out]; rfl, 0, rfl⟩

end Go.Proofs.YtopjlbihhbjhnaaDoor
