/- Contracts of the small functions: impl.groupOk, spec.l1In, impl.remainder, impl.GroupPrime/Order/Base, spec.GroupPrime/Order/Base, spec.l1Mod. -/
import Derived.Test.YtopjlbihhbjhnabDoorRows
import Derived.Test.YtopjlbihhbjhnabDoorPure
import Derived.WalkKit
import Derived.ProofKit
import Derived.BigQuiet
import Derived.Deep.QuietTactic
import Derived.LoopTactic
import Derived.Below
import Derived.WalkSmall
import Derived.Lib.Hide
namespace Go.Proofs.YtopjlbihhbjhnabDoor
open Go.RowKit

/-- The cells of impl.groups. -/
structure Gr (w : World) : Prop where
  c0 : w.cell? ⟨0, 0, none⟩ = some (.int .i64 7)
  c1 : w.cell? ⟨0, 1, none⟩ = some (.int .i64 3)
  c2 : w.cell? ⟨0, 2, none⟩ = some (.int .i64 2)
  c3 : w.cell? ⟨0, 3, none⟩ = some (.int .i64 11)
  c4 : w.cell? ⟨0, 4, none⟩ = some (.int .i64 5)
  c5 : w.cell? ⟨0, 5, none⟩ = some (.int .i64 3)
  c6 : w.cell? ⟨0, 6, none⟩ = some (.int .i64 23)
  c7 : w.cell? ⟨0, 7, none⟩ = some (.int .i64 11)
  c8 : w.cell? ⟨0, 8, none⟩ = some (.int .i64 2)
  c9 : w.cell? ⟨0, 9, none⟩ = some (.int .i64 47)
  c10 : w.cell? ⟨0, 10, none⟩ = some (.int .i64 23)
  c11 : w.cell? ⟨0, 11, none⟩ = some (.int .i64 2)

theorem groupOk_any (g : Int) (w : World) : Calls Tryd.prog 97 #[.int .i64 g] w fun e w' => e = .returned (.bool (gok g)) ∧ w = w' := by
  go_enter Tryd.func97, Tryd.ntmps97
  go_wp2
  all_goals (go_ret; refine ⟨?_, rfl⟩; first | (simp [gok, *]; done) | (simp [gok, *]; omega))

theorem l1In_any (n a b : Int) (w : World) : Calls Tryd.prog 68 #[.int .i64 n, .int .i64 a, .int .i64 b] w fun e w' => e = .returned (.bool (decide (a ≤ n) && decide (n ≤ b))) ∧ w = w' := by
  go_enter Tryd.func68, Tryd.ntmps68
  go_wp2
  all_goals (go_ret; refine ⟨?_, rfl⟩; first | (simp [*]; done) | (simp [*]; omega))

theorem iprm_any (g : Int) (w : World) (G : Gr w) : Calls Tryd.prog 62 #[.int .i64 g] w fun e w' => e = .returned (.int .i64 (prm g)) ∧ w = w' := by
  by_cases hg : 0 ≤ g ∧ g < 4
  · obtain ⟨c0, c1, c2, c3, c4, c5, c6, c7, c8, c9, c10, c11⟩ := G
    obtain ⟨h0, h4⟩ := hg
    rcases g_cases h0 h4 with rfl | rfl | rfl | rfl <;> clear h0 h4
    all_goals
      go_enter Tryd.func62, Tryd.ntmps62
      go_wp2_with (go_at_call 97; refine (groupOk_any _ _).mono ?_; rintro e w' ⟨rfl, rfl⟩)
      go_ret
      exact ⟨rfl, rfl⟩
  · have hb : gok g = false := by simp [gok]; omega
    have hn : prm g = -1 := by unfold prm; rw [if_neg (by omega), if_neg (by omega), if_neg (by omega), if_neg (by omega)]
    have HN := Lib.hid hn; clear hn
    clear G
    go_enter Tryd.func62, Tryd.ntmps62
    go_wp2_with (go_at_call 97; refine (groupOk_any _ _).mono ?_; rintro e w' ⟨rfl, rfl⟩)
    go_ret
    exact ⟨by rw [HN.out]; rfl, rfl⟩

theorem sprm_any (g : Int) (w : World) : Calls Tryd.prog 98 #[.int .i64 g] w fun e w' => e = .returned (.int .i64 (prm g)) ∧ Below w.heap.size w w' := by
  by_cases hg : 0 ≤ g ∧ g < 4
  · obtain ⟨h0, h4⟩ := hg
    rcases g_cases h0 h4 with rfl | rfl | rfl | rfl <;> clear h0 h4
    all_goals
      go_enter Tryd.func98, Tryd.ntmps98
      go_wp2_with (go_at_call 68; refine (l1In_any _ _ _ _).mono ?_; rintro e w' ⟨rfl, rfl⟩)
      go_ret
      exact ⟨rfl, (Below.refl _ _).alloc (Nat.le_refl _) _⟩
  · have hb : (decide (0 ≤ g) && decide (g ≤ 3)) = false := by simp; omega
    have hn : prm g = -1 := by unfold prm; rw [if_neg (by omega), if_neg (by omega), if_neg (by omega), if_neg (by omega)]
    have HN := Lib.hid hn; clear hn
    go_enter Tryd.func98, Tryd.ntmps98
    go_wp2_with (go_at_call 68; refine (l1In_any _ _ _ _).mono ?_; rintro e w' ⟨rfl, rfl⟩)
    go_ret
    exact ⟨by rw [HN.out]; rfl, Below.refl _ _⟩

theorem iord_any (g : Int) (w : World) (G : Gr w) : Calls Tryd.prog 63 #[.int .i64 g] w fun e w' => e = .returned (.int .i64 (ord g)) ∧ w = w' := by
  by_cases hg : 0 ≤ g ∧ g < 4
  · obtain ⟨c0, c1, c2, c3, c4, c5, c6, c7, c8, c9, c10, c11⟩ := G
    obtain ⟨h0, h4⟩ := hg
    rcases g_cases h0 h4 with rfl | rfl | rfl | rfl <;> clear h0 h4
    all_goals
      go_enter Tryd.func63, Tryd.ntmps63
      go_wp2_with (go_at_call 97; refine (groupOk_any _ _).mono ?_; rintro e w' ⟨rfl, rfl⟩)
      go_ret
      exact ⟨rfl, rfl⟩
  · have hb : gok g = false := by simp [gok]; omega
    have hn : ord g = -1 := by unfold ord; rw [if_neg (by omega), if_neg (by omega), if_neg (by omega), if_neg (by omega)]
    have HN := Lib.hid hn; clear hn
    clear G
    go_enter Tryd.func63, Tryd.ntmps63
    go_wp2_with (go_at_call 97; refine (groupOk_any _ _).mono ?_; rintro e w' ⟨rfl, rfl⟩)
    go_ret
    exact ⟨by rw [HN.out]; rfl, rfl⟩

theorem sord_any (g : Int) (w : World) : Calls Tryd.prog 25 #[.int .i64 g] w fun e w' => e = .returned (.int .i64 (ord g)) ∧ Below w.heap.size w w' := by
  by_cases hg : 0 ≤ g ∧ g < 4
  · obtain ⟨h0, h4⟩ := hg
    rcases g_cases h0 h4 with rfl | rfl | rfl | rfl <;> clear h0 h4
    all_goals
      go_enter Tryd.func25, Tryd.ntmps25
      go_wp2_with (go_at_call 68; refine (l1In_any _ _ _ _).mono ?_; rintro e w' ⟨rfl, rfl⟩)
      go_ret
      exact ⟨rfl, (Below.refl _ _).alloc (Nat.le_refl _) _⟩
  · have hb : (decide (0 ≤ g) && decide (g ≤ 3)) = false := by simp; omega
    have hn : ord g = -1 := by unfold ord; rw [if_neg (by omega), if_neg (by omega), if_neg (by omega), if_neg (by omega)]
    have HN := Lib.hid hn; clear hn
    go_enter Tryd.func25, Tryd.ntmps25
    go_wp2_with (go_at_call 68; refine (l1In_any _ _ _ _).mono ?_; rintro e w' ⟨rfl, rfl⟩)
    go_ret
    exact ⟨by rw [HN.out]; rfl, Below.refl _ _⟩

theorem sbas_any (g : Int) (w : World) : Calls Tryd.prog 92 #[.int .i64 g] w fun e w' => e = .returned (.int .i64 (bas g)) ∧ Below w.heap.size w w' := by
  by_cases hg : 0 ≤ g ∧ g < 4
  · obtain ⟨h0, h4⟩ := hg
    rcases g_cases h0 h4 with rfl | rfl | rfl | rfl <;> clear h0 h4
    all_goals
      go_enter Tryd.func92, Tryd.ntmps92
      go_wp2_with (go_at_call 68; refine (l1In_any _ _ _ _).mono ?_; rintro e w' ⟨rfl, rfl⟩)
      go_ret
      exact ⟨rfl, (Below.refl _ _).alloc (Nat.le_refl _) _⟩
  · have hb : (decide (0 ≤ g) && decide (g ≤ 3)) = false := by simp; omega
    have hn : bas g = -1 := by unfold bas; rw [if_neg (by omega), if_neg (by omega), if_neg (by omega), if_neg (by omega)]
    have HN := Lib.hid hn; clear hn
    go_enter Tryd.func92, Tryd.ntmps92
    go_wp2_with (go_at_call 68; refine (l1In_any _ _ _ _).mono ?_; rintro e w' ⟨rfl, rfl⟩)
    go_ret
    exact ⟨by rw [HN.out]; rfl, Below.refl _ _⟩

end Go.Proofs.YtopjlbihhbjhnabDoor
