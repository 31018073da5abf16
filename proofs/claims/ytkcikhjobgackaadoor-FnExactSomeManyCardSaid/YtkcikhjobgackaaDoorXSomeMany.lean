/- The exact law of SomeMany, walked: spec's answer, impl's answer, and that both are the same; no argument is written to. -/
import Derived.Test.YtkcikhjobgackaaDoorSmyI
import Derived.Test.YtkcikhjobgackaaDoorMark
namespace Go.Proofs.YtkcikhjobgackaaDoor
open Go.RowKit

set_option maxHeartbeats 1600000 in
theorem xSomeMany_walk (g : Int) (keysa : Option Addr) (keysc : Nat) (keys : List Int) (need : Int) (ask : Int) (w : World) (G : Gr w) (hk : ArgI w keysa keys) (mk : keys.length ≤ maxLen) :
    Calls Tryd.prog 8 #[.int .i64 g, .slice keysa keys.length keysc, .int .i64 need, .int .i64 ask] w fun e w' => e = .returned (.bool true) ∧ Below w.heap.size w w' := by
  have HG := Lib.hid G
  have HK := Lib.hid hk
  obtain ⟨r, hr⟩ : ∃ r, smyM g keys need ask = r := ⟨_, rfl⟩
  have HR := Lib.hid hr
  have hrr : (r != r) = false := by simp
  unfold maxLen at mk
  clear hk G hr
  by_cases ck : keys.length ≤ 1048576
  case neg =>
    go_enter Tryd.func8, Tryd.ntmps8
    go_wp2
    go_ret
    exact ⟨rfl, Below.refl _ _⟩
  go_enter Tryd.func8, Tryd.ntmps8
  go_wp2_with fail
  refine (toI_any keysa keysc keys _ HK.out ck).mono ?_
  rintro e w1 ⟨v1, rfl, o1, hb⟩
  have B1 := Lib.hid hb
  have I1 := Lib.hid (Ints.of_own o1 (small ck))
  clear hb o1
  go_wp2_with fail
  refine (ssmy_any g need ask v1 keys _ I1.out).mono ?_
  rintro e w2 ⟨rfl, hb⟩
  rw [HR.out]
  have B2 := Lib.hid (Below.on B1.out hb)
  clear hb
  go_wp2_with fail
  refine (toI_any keysa keysc keys _ (HK.out.on B2.out) ck).mono ?_
  rintro e w3 ⟨v2, rfl, o2, hb⟩
  have B3 := Lib.hid (Below.on B2.out hb)
  have I3 := Lib.hid (Ints.of_own o2 (small ck))
  clear hb o2
  go_wp2_with fail
  refine (ismy_any g need ask v2 keys _ (HG.out.on B3.out) I3.out).mono ?_
  rintro e w4 ⟨rfl, hb⟩
  rw [HR.out]
  have B4 := Lib.hid (Below.on B3.out hb)
  have I4 := Lib.hid (I3.out.below hb)
  clear hb
  go_wp2_with fail
  refine (toI_any keysa keysc keys _ (HK.out.on B4.out) ck).mono ?_
  rintro e w5 ⟨v3, rfl, o3, hb⟩
  have B5 := Lib.hid (Below.on B4.out hb)
  have I5 := Lib.hid (Ints.of_own o3 (small ck))
  have I6 := Lib.hid (I4.out.below hb)
  clear hb o3
  go_wp2_with fail
  refine (eqs_same v2 v3 keys _ I6.out I5.out).mono ?_
  rintro e w6 ⟨rfl, m, hw⟩
  have B6 := Lib.hid (Below.on B5.out (below_of_drew hw))
  clear hw
  go_wp2
  go_ret
  exact ⟨rfl, B6.out⟩
end Go.Proofs.YtkcikhjobgackaaDoor
