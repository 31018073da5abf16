/- Contracts of the small functions: impl.groupOk, spec.l1In, impl.remainder, impl.GroupPrime/Order/Base, spec.GroupPrime/Order/Base, spec.l1Mod. -/
import Derived.Test.YtopjlbihhbjhnaaDoorRows
import Derived.Test.YtopjlbihhbjhnaaDoorPure
import Derived.WalkKit
import Derived.ProofKit
import Derived.BigQuiet
import Derived.Deep.QuietTactic
import Derived.LoopTactic
import Derived.Below
import Derived.WalkSmall
import Derived.Lib.Hide
namespace Go.Proofs.YtopjlbihhbjhnaaDoor
open Go.RowKit

/-- The cells of impl.groups. -/
structure Gr (w : World) : Prop where
  c0 : w.cell? ⟨0, 0, none⟩ = some (.int .i64 7)
  c1 : w.cell? ⟨0, 1, none⟩ = some (.int .i64 3)
  c2 : w.cell? ⟨0, 2, none⟩ = some (.int .i64 2)
  c3 : w.cell? ⟨0, 3, none⟩ = some (.int .i64 11)
  c4 : w.cell? ⟨0, 4, none⟩ = some (.int .i64 5)
  c5 : w.cell? ⟨0, 5, none⟩ = some (.int .i64 3)
  c6 : w.cell? ⟨0, 6, none⟩ = some (.int .i64 23)
  c7 : w.cell? ⟨0, 7, none⟩ = some (.int .i64 11)
  c8 : w.cell? ⟨0, 8, none⟩ = some (.int .i64 2)
  c9 : w.cell? ⟨0, 9, none⟩ = some (.int .i64 47)
  c10 : w.cell? ⟨0, 10, none⟩ = some (.int .i64 23)
  c11 : w.cell? ⟨0, 11, none⟩ = some (.int .i64 2)

theorem groupOk_any (g : Int) (w : World) : Calls Tryd.prog 90 #[.int .i64 g] w fun e w' => e = .returned (.bool (gok g)) ∧ w = w' := by
  go_enter Tryd.func90, Tryd.ntmps90
  go_wp2
  all_goals (go_ret; refine ⟨?_, rfl⟩; first | (simp [gok, *]; done) | (simp [gok, *]; omega))

theorem l1In_any (n a b : Int) (w : World) : Calls Tryd.prog 58 #[.int .i64 n, .int .i64 a, .int .i64 b] w fun e w' => e = .returned (.bool (decide (a ≤ n) && decide (n ≤ b))) ∧ w = w' := by
  go_enter Tryd.func58, Tryd.ntmps58
  go_wp2
  all_goals (go_ret; refine ⟨?_, rfl⟩; first | (simp [*]; done) | (simp [*]; omega))

theorem sprm_any (g : Int) (w : World) : Calls Tryd.prog 86 #[.int .i64 g] w fun e w' => e = .returned (.int .i64 (prm g)) ∧ Below w.heap.size w w' := by
  by_cases hg : 0 ≤ g ∧ g < 4
  · obtain ⟨h0, h4⟩ := hg
    rcases g_cases h0 h4 with rfl | rfl | rfl | rfl <;> clear h0 h4
    all_goals
      go_enter Tryd.func86, Tryd.ntmps86
      go_wp2_with (go_at_call 58; refine (l1In_any _ _ _ _).mono ?_; rintro e w' ⟨rfl, rfl⟩)
      go_ret
      exact ⟨rfl, (Below.refl _ _).alloc (Nat.le_refl _) _⟩
  · have hb : (decide (0 ≤ g) && decide (g ≤ 3)) = false := by simp; omega
    have hn : prm g = -1 := by unfold prm; rw [if_neg (by omega), if_neg (by omega), if_neg (by omega), if_neg (by omega)]
    have HN := Lib.hid hn; clear hn
    go_enter Tryd.func86, Tryd.ntmps86
    go_wp2_with (go_at_call 58; refine (l1In_any _ _ _ _).mono ?_; rintro e w' ⟨rfl, rfl⟩)
    go_ret
    exact ⟨by rw [HN.out]; rfl, Below.refl _ _⟩

theorem sord_any (g : Int) (w : World) : Calls Tryd.prog 51 #[.int .i64 g] w fun e w' => e = .returned (.int .i64 (ord g)) ∧ Below w.heap.size w w' := by
  by_cases hg : 0 ≤ g ∧ g < 4
  · obtain ⟨h0, h4⟩ := hg
    rcases g_cases h0 h4 with rfl | rfl | rfl | rfl <;> clear h0 h4
    all_goals
      go_enter Tryd.func51, Tryd.ntmps51
      go_wp2_with (go_at_call 58; refine (l1In_any _ _ _ _).mono ?_; rintro e w' ⟨rfl, rfl⟩)
      go_ret
      exact ⟨rfl, (Below.refl _ _).alloc (Nat.le_refl _) _⟩
  · have hb : (decide (0 ≤ g) && decide (g ≤ 3)) = false := by simp; omega
    have hn : ord g = -1 := by unfold ord; rw [if_neg (by omega), if_neg (by omega), if_neg (by omega), if_neg (by omega)]
    have HN := Lib.hid hn; clear hn
    go_enter Tryd.func51, Tryd.ntmps51
    go_wp2_with (go_at_call 58; refine (l1In_any _ _ _ _).mono ?_; rintro e w' ⟨rfl, rfl⟩)
    go_ret
    exact ⟨by rw [HN.out]; rfl, Below.refl _ _⟩

theorem sbas_any (g : Int) (w : World) : Calls Tryd.prog 82 #[.int .i64 g] w fun e w' => e = .returned (.int .i64 (bas g)) ∧ Below w.heap.size w w' := by
  by_cases hg : 0 ≤ g ∧ g < 4
  · obtain ⟨h0, h4⟩ := hg
    rcases g_cases h0 h4 with rfl | rfl | rfl | rfl <;> clear h0 h4
    all_goals
      go_enter Tryd.func82, Tryd.ntmps82
      go_wp2_with (go_at_call 58; refine (l1In_any _ _ _ _).mono ?_; rintro e w' ⟨rfl, rfl⟩)
      go_ret
      exact ⟨rfl, (Below.refl _ _).alloc (Nat.le_refl _) _⟩
  · have hb : (decide (0 ≤ g) && decide (g ≤ 3)) = false := by simp; omega
    have hn : bas g = -1 := by unfold bas; rw [if_neg (by omega), if_neg (by omega), if_neg (by omega), if_neg (by omega)]
    have HN := Lib.hid hn; clear hn
    go_enter Tryd.func82, Tryd.ntmps82
    go_wp2_with (go_at_call 58; refine (l1In_any _ _ _ _).mono ?_; rintro e w' ⟨rfl, rfl⟩)
    go_ret
    exact ⟨by rw [HN.out]; rfl, Below.refl _ _⟩

end Go.Proofs.YtopjlbihhbjhnaaDoor
