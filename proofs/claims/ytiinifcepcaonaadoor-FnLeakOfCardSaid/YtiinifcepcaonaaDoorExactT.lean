/- The exact laws of chapter 2 over numbers and talks. -/
import Derived.Test.YtiinifcepcaonaaDoorImplT
import Derived.Test.YtiinifcepcaonaaDoorTalkM
namespace Go.Proofs.YtiinifcepcaonaaDoor
open Go.RowKit

theorem eqTalk_any (s a t s' a' t' : Int) (w : World) : Calls Tryd.prog 81 #[.agg #[.int .i64 s, .int .i64 a, .int .i64 t], .agg #[.int .i64 s', .int .i64 a', .int .i64 t']] w fun e w' => e = .returned (.bool (talkB s a t s' a' t')) ∧ Below w.heap.size w w' := by
  have HB0 := B2x.start w s a t s' a' t'
  obtain ⟨⟨c0, c1, c2⟩, d0, d1, d2⟩ := B2x.cells HB0
  have HX := Lib.hid (show talkB s a t s' a' t' = (decide (s = s') && decide (a = a') && decide (t = t')) from rfl)
  by_cases h1 : s = s'
  · by_cases h2 : a = a'
    · by_cases h3 : t = t'
      · have e1 : (s != s') = false := by simpa using h1
        have e2 : (a != a') = false := by simpa using h2
        have e3 : (t != t') = false := by simpa using h3
        have HY := Lib.hid (show talkB s a t s' a' t' = true by simp [talkB, h1, h2, h3])
        clear h1 h2 h3
        go_enter Tryd.func81, Tryd.ntmps81
        go_wp2
        go_ret
        exact ⟨by rw [HY.out]; rfl, B2x.fin HB0⟩
      · have e1 : (s != s') = false := by simpa using h1
        have e2 : (a != a') = false := by simpa using h2
        have e3 : (t != t') = true := by simpa using h3
        have HY := Lib.hid (show talkB s a t s' a' t' = false by simp [talkB, h3])
        clear h1 h2 h3
        go_enter Tryd.func81, Tryd.ntmps81
        go_wp2
        go_ret
        exact ⟨by rw [HY.out]; rfl, B2x.fin HB0⟩
    · have e1 : (s != s') = false := by simpa using h1
      have e2 : (a != a') = true := by simpa using h2
      have HY := Lib.hid (show talkB s a t s' a' t' = false by simp [talkB, h2])
      clear h1 h2
      go_enter Tryd.func81, Tryd.ntmps81
      go_wp2
      go_ret
      exact ⟨by rw [HY.out]; rfl, B2x.fin HB0⟩
  · have e1 : (s != s') = true := by simpa using h1
    have HY := Lib.hid (show talkB s a t s' a' t' = false by simp [talkB, h1])
    clear h1
    go_enter Tryd.func81, Tryd.ntmps81
    go_wp2
    go_ret
    exact ⟨by rw [HY.out]; rfl, B2x.fin HB0⟩

end Go.Proofs.YtiinifcepcaonaaDoor
