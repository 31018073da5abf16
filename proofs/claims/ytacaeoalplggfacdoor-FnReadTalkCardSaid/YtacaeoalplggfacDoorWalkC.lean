/- Contracts of impl's products, powers, logarithms and inverses. -/
import Derived.Test.YtacaeoalplggfacDoorWalkB
namespace Go.Proofs.YtacaeoalplggfacDoor
open Go.RowKit

theorem ret_int {k : IntKind} {a b : Int} (h : a = b) : Ending.returned (.int k a) = .returned (.int k b) := by rw [h]
theorem ret_bool {a b : Bool} (h : a = b) : Ending.returned (.bool a) = .returned (.bool b) := by rw [h]

theorem iex_any (g n : Int) (w : World) (G : Gr w) : Calls Tryd.prog 42 #[.int .i64 g, .int .i64 n] w fun e w' => e = .returned (.bool (exB g n)) ∧ w = w' := by
  by_cases hg : 0 ≤ g ∧ g < 4
  · obtain ⟨c0, c1, c2, c3, c4, c5, c6, c7, c8, c9, c10, c11⟩ := G
    by_cases hn : 0 ≤ n
    · by_cases h1 : n < ord g
      · have HX := Lib.hid (exB_true.2 ⟨hg, hn, h1⟩)
        obtain ⟨h0, h4⟩ := hg
        rcases g_cases h0 h4 with rfl | rfl | rfl | rfl <;> clear h0 h4
        all_goals
          simp [ord] at h1
          have hd := decide_eq_true h1
          go_enter Tryd.func42, Tryd.ntmps42
          go_wp2_with (go_at_call 34; refine (groupOk_any _ _).mono ?_; rintro e w1 ⟨rfl, rfl⟩)
          go_ret
          exact ⟨by rw [HX.out]; rfl, rfl⟩
      · have HX := Lib.hid (exB_false (g := g).2 (fun h => h1 h.2.2))
        obtain ⟨h0, h4⟩ := hg
        rcases g_cases h0 h4 with rfl | rfl | rfl | rfl <;> clear h0 h4
        all_goals
          simp [ord] at h1
          have hd := decide_eq_false (Int.not_lt.2 h1)
          go_enter Tryd.func42, Tryd.ntmps42
          go_wp2_with (go_at_call 34; refine (groupOk_any _ _).mono ?_; rintro e w1 ⟨rfl, rfl⟩)
          go_ret
          exact ⟨by rw [HX.out]; rfl, rfl⟩
    · have HX := Lib.hid (exB_false (g := g).2 (fun h => hn h.2.1))
      have hb : gok g = true := gok_true.2 hg
      go_enter Tryd.func42, Tryd.ntmps42
      go_wp2_with (go_at_call 34; refine (groupOk_any _ _).mono ?_; rintro e w1 ⟨rfl, rfl⟩)
      go_ret
      exact ⟨by rw [HX.out]; rfl, rfl⟩
  · have hb : gok g = false := gok_false.2 hg
    have HX := Lib.hid (exB_none hg n)
    clear G hg
    go_enter Tryd.func42, Tryd.ntmps42
    go_wp2_with (go_at_call 34; refine (groupOk_any _ _).mono ?_; rintro e w1 ⟨rfl, rfl⟩)
    go_ret
    exact ⟨by rw [HX.out]; rfl, rfl⟩

end Go.Proofs.YtacaeoalplggfacDoor
