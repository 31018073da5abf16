/- The exact law of LinesUp, walked: spec's answer, impl's answer, and that both are the same; no argument is written to. -/
import Derived.Test.YtclihkcigppgjaaDoorLinS
import Derived.Test.YtclihkcigppgjaaDoorMark
namespace Go.Proofs.YtclihkcigppgjaaDoor
open Go.RowKit

set_option maxHeartbeats 1600000 in
theorem xLinesUp_walk (g : Int) (need : Int) (ask : Int) (asksa : Option Addr) (asksc : Nat) (asks : List Int) (w : World) (G : Gr w) (hk : ArgI w asksa asks) (mk : asks.length ≤ maxLen) :
    Calls Tryd.prog 5 #[.int .i64 g, .int .i64 need, .int .i64 ask, .slice asksa asks.length asksc] w fun e w' => e = .returned (.bool true) ∧ Below w.heap.size w w' := by
  have HG := Lib.hid G
  have HK := Lib.hid hk
  obtain ⟨r, hr⟩ : ∃ r, linB g need ask asks = r := ⟨_, rfl⟩
  have HR := Lib.hid hr
  have hrr : (r != r) = false := by simp
  unfold maxLen at mk
  clear hk G hr
  by_cases ck : asks.length ≤ 1048576
  case neg =>
    go_enter Tryd.func5, Tryd.ntmps5
    go_wp2
    go_ret
    exact ⟨rfl, Below.refl _ _⟩
  go_enter Tryd.func5, Tryd.ntmps5
  go_wp2_with fail
  refine (toI_any asksa asksc asks _ HK.out ck).mono ?_
  rintro e w1 ⟨v1, rfl, o1, hb⟩
  have B1 := Lib.hid hb
  have I1 := Lib.hid (Ints.of_own o1 (small ck))
  clear hb o1
  go_wp2_with fail
  refine (slin_any g need ask v1 asks _ I1.out).mono ?_
  rintro e w2 ⟨rfl, hb⟩
  rw [HR.out]
  have B2 := Lib.hid (Below.on B1.out hb)
  clear hb
  go_wp2_with fail
  refine (toI_any asksa asksc asks _ (HK.out.on B2.out) ck).mono ?_
  rintro e w3 ⟨v2, rfl, o2, hb⟩
  have B3 := Lib.hid (Below.on B2.out hb)
  have I3 := Lib.hid (Ints.of_own o2 (small ck))
  clear hb o2
  go_wp2_with fail
  refine (ilin_any g need ask v2 asks _ (HG.out.on B3.out) I3.out).mono ?_
  rintro e w4 ⟨rfl, hb⟩
  rw [HR.out]
  have B4 := Lib.hid (Below.on B3.out hb)
  have I4 := Lib.hid (I3.out.below hb)
  clear hb
  go_wp2_with fail
  refine (toI_any asksa asksc asks _ (HK.out.on B4.out) ck).mono ?_
  rintro e w5 ⟨v3, rfl, o3, hb⟩
  have B5 := Lib.hid (Below.on B4.out hb)
  have I5 := Lib.hid (Ints.of_own o3 (small ck))
  have I6 := Lib.hid (I4.out.below hb)
  clear hb o3
  go_wp2_with fail
  refine (eqs_same v2 v3 asks _ I6.out I5.out).mono ?_
  rintro e w6 ⟨rfl, m, hw⟩
  have B6 := Lib.hid (Below.on B5.out (below_of_drew hw))
  clear hw
  go_wp2
  go_ret
  exact ⟨rfl, B6.out⟩
end Go.Proofs.YtclihkcigppgjaaDoor
