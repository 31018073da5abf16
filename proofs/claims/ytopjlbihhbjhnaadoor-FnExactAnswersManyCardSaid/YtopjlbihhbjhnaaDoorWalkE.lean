/- Contracts of spec's products, powers, logarithms and inverses. -/
import Derived.Test.YtopjlbihhbjhnaaDoorWalkD
namespace Go.Proofs.YtopjlbihhbjhnaaDoor
open Go.RowKit

theorem sback_any (g n : Int) (w : World) : Calls Tryd.prog 53 #[.int .i64 g, .int .i64 n] w fun e w' => e = .returned (.int .i64 (gback g n)) ∧ Below w.heap.size w w' := by
  cases hx : exB g n
  · have HX := Lib.hid (gback_no hx)
    go_enter Tryd.func53, Tryd.ntmps53
    go_wp2_with fail
    refine (sex_any _ _ _).mono ?_
    rintro e w1 ⟨rfl, hb1⟩
    go_wp2
    go_ret
    exact ⟨by rw [HX.out]; rfl, hb1⟩
  · by_cases h1 : n = 0
    · subst h1
      have HX := Lib.hid (back_zero g)
      go_enter Tryd.func53, Tryd.ntmps53
      go_wp2_with fail
      refine (sex_any _ _ _).mono ?_
      rintro e w1 ⟨rfl, hb1⟩
      go_wp2
      go_ret
      exact ⟨by rw [HX.out]; rfl, hb1⟩
    · have HX := Lib.hid (gback_pow hx h1)
      obtain ⟨⟨h0, h4⟩, n0, n1⟩ := exB_true.1 hx
      obtain ⟨q1, q2⟩ := ord_bd h0 h4
      have hz : (n == 0) = false := by simpa using h1
      go_enter Tryd.func53, Tryd.ntmps53
      go_wp2_with fail
      refine (sex_any _ _ _).mono ?_
      rintro e w1 ⟨rfl, hb1⟩
      go_wp2_with fail
      refine (sord_any _ _).mono ?_
      rintro e w2 ⟨rfl, hb2⟩
      go_wp2_with fail
      refine (sord_any _ _).mono ?_
      rintro e w3 ⟨rfl, hb3⟩
      go_wp2_with fail
      refine (spw_any _ _ _ _ (by omega) (by omega) (by omega) (by omega) (by omega) (by omega)).mono ?_
      rintro e w4 ⟨rfl, rfl⟩
      go_wp2
      go_ret
      exact ⟨ret_int HX.out.symm, Below.on hb1 (Below.on hb2 hb3)⟩

end Go.Proofs.YtopjlbihhbjhnaaDoor
