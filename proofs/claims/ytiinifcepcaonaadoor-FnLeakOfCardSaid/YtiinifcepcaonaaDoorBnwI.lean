/- BoardNew, impl's and spec's. -/
import Derived.Test.YtiinifcepcaonaaDoorNtl
import Derived.Test.YtiinifcepcaonaaDoorBWalk
namespace Go.Proofs.YtiinifcepcaonaaDoor
open Go.RowKit

def bnwG (g : Int) : Int := if gok g then g else 0
theorem bnwG_yes {g : Int} (h : gok g = true) : bnwG g = g := by unfold bnwG; rw [h]; rfl
theorem bnwG_no {g : Int} (h : gok g = false) : bnwG g = 0 := by unfold bnwG; rw [h]; rfl
theorem ownN_made (w : World) : OwnN (w.alloc (.cells #[] 47)) w.heap.size (.slice (some ⟨w.heap.size, 0, none⟩) 0 0) [] := World.ownsRow_made w #[] 0 (Nat.le_refl _) (Nat.zero_le _) rfl
theorem ibnw_any (g : Int) (w : World) : Calls Tryd.prog 27 #[.int .i64 g] w fun e w' => ∃ v, e = .returned (.agg #[.int .i64 (bnwG g), v]) ∧ OwnN w' w.heap.size v [] ∧ Below w.heap.size w w' := by
  cases hg : gok g
  · rw [bnwG_no hg]
    have HG := Lib.hid hg
    clear hg
    go_enter Tryd.func27, Tryd.ntmps27
    go_wp2_with fail
    refine (groupOk_any g _).mono ?_
    rintro e w1 ⟨rfl, rfl⟩
    rw [HG.out]
    go_wp2
    refine bodyPost_ret (v := .agg #[.int .i64 0, .slice none 0 0]) (by simp [results, Tryd.results27, go_sem]) rfl ⟨_, rfl, OwnN.nil _ _, ?_⟩
    exact below_grow _ _
  · rw [bnwG_yes hg]
    have HG := Lib.hid hg
    clear hg
    go_enter Tryd.func27, Tryd.ntmps27
    go_wp2_with fail
    refine (groupOk_any g _).mono ?_
    rintro e w1 ⟨rfl, rfl⟩
    rw [HG.out]
    go_wp2
    refine bodyPost_ret (v := .agg #[.int .i64 g, .slice none 0 0]) (by simp [results, Tryd.results27, go_sem]) rfl ⟨_, rfl, OwnN.nil _ _, ?_⟩
    exact below_grow _ _
theorem ibnw0 (g : Int) (w : World) : Calls Tryd.prog 27 #[.int .i64 g] w fun e w' => e = .returned (.agg #[.int .i64 (bnwG g), .slice none 0 0]) ∧ Below w.heap.size w w' := by
  cases hg : gok g
  · rw [bnwG_no hg]
    have HG := Lib.hid hg
    clear hg
    go_enter Tryd.func27, Tryd.ntmps27
    go_wp2_with fail
    refine (groupOk_any g _).mono ?_
    rintro e w1 ⟨rfl, rfl⟩
    rw [HG.out]
    go_wp2
    refine bodyPost_ret (v := .agg #[.int .i64 0, .slice none 0 0]) (by simp [results, Tryd.results27, go_sem]) rfl ⟨rfl, ?_⟩
    exact below_grow _ _
  · rw [bnwG_yes hg]
    have HG := Lib.hid hg
    clear hg
    go_enter Tryd.func27, Tryd.ntmps27
    go_wp2_with fail
    refine (groupOk_any g _).mono ?_
    rintro e w1 ⟨rfl, rfl⟩
    rw [HG.out]
    go_wp2
    refine bodyPost_ret (v := .agg #[.int .i64 g, .slice none 0 0]) (by simp [results, Tryd.results27, go_sem]) rfl ⟨rfl, ?_⟩
    exact below_grow _ _
theorem l1In_bn {n a b : Int} {r : Bool} (h : (decide (a ≤ n) && decide (n ≤ b)) = r) (w : World) : Calls Tryd.prog 38 #[.int .i64 n, .int .i64 a, .int .i64 b] w fun e w' => e = .returned (.bool r) ∧ w = w' := by rw [← h]; exact l1In_any n a b w
theorem gok_in (g : Int) : (decide ((0 : Int) ≤ g) && decide (g ≤ 3)) = gok g := by unfold gok; congr 1; rw [Bool.eq_iff_iff, decide_eq_true_iff, decide_eq_true_iff]; omega
theorem sbnw_any (g : Int) (w : World) : Calls Tryd.prog 29 #[.int .i64 g] w fun e w' => ∃ v, e = .returned (.agg #[.int .i64 (bnwG g), v]) ∧ OwnN w' w.heap.size v [] ∧ Below w.heap.size w w' := by
  cases hg : gok g
  · rw [bnwG_no hg]
    have HG := Lib.hid (show (decide ((0 : Int) ≤ g) && decide (g ≤ 3)) = false by rw [gok_in]; exact hg)
    clear hg
    go_enter Tryd.func29, Tryd.ntmps29
    go_wp2_with fail
    refine (l1In_bn HG.out _).mono ?_
    rintro e w1 ⟨rfl, rfl⟩
    go_wp2
    refine bodyPost_ret (v := .agg #[.int .i64 0, .slice none 0 0]) (by simp [results, Tryd.results29, go_sem]) rfl ⟨_, rfl, OwnN.nil _ _, ?_⟩
    exact below_grow _ _
  · rw [bnwG_yes hg]
    have HG := Lib.hid (show (decide ((0 : Int) ≤ g) && decide (g ≤ 3)) = true by rw [gok_in]; exact hg)
    clear hg
    have hsz : (w.alloc (.cells #[.int .i64 0, .slice none 0 0] 29)).heap.size = w.heap.size + 1 := by simp
    go_enter Tryd.func29, Tryd.ntmps29
    go_wp2_with fail
    refine (l1In_bn HG.out _).mono ?_
    rintro e w1 ⟨rfl, rfl⟩
    go_wp2
    refine bodyPost_ret (v := .agg #[.int .i64 g, .slice (some ⟨w.heap.size + 1, 0, none⟩) 0 0]) (by simp [results, Tryd.results29, go_sem]) rfl ⟨_, rfl, ?_, ?_⟩
    · have h := ownN_made (w.alloc (.cells #[.int .i64 g, .slice (some ⟨w.heap.size + 1, 0, none⟩) 0 0] 29))
      rw [show (w.alloc (.cells #[.int .i64 g, .slice (some ⟨w.heap.size + 1, 0, none⟩) 0 0] 29)).heap.size = w.heap.size + 1 by simp] at h
      exact row5_lower h (Nat.le_succ _)
    · exact (below_grow _ _).trans ((below_grow _ _).mono (by simp))
end Go.Proofs.YtiinifcepcaonaaDoor
