/- The exact law of AskedBy, walked: spec's answer, impl's answer, and that both are the same; no argument is written to. -/
import Derived.Test.YtlcegpmhlnilfaaDoorAsI
import Derived.Test.YtlcegpmhlnilfaaDoorAsS
import Derived.Test.YtlcegpmhlnilfaaDoorBMark
namespace Go.Proofs.YtlcegpmhlnilfaaDoor
open Go.RowKit

set_option maxHeartbeats 1600000 in
theorem xAskedBy_walk (g : Int) (askera : Option Addr) (askerc : Nat) (asker : List Int) (say : Int) (w : World) (G : Gr w) (hk : ArgI w askera asker) (mk : asker.length ≤ maxLen) :
    Calls Tryd.prog 4 #[.int .i64 g, .slice askera asker.length askerc, .int .i64 say] w fun e w' => e = .returned (.bool true) ∧ Below w.heap.size w w' := by
  have HG := Lib.hid G
  have HK := Lib.hid hk
  obtain ⟨r, hr⟩ : ∃ r, askedB g asker say = r := ⟨_, rfl⟩
  have HR := Lib.hid hr
  have hrr : (r != r) = false := by simp
  unfold maxLen at mk
  clear hk G hr
  by_cases ck : asker.length ≤ 1048576
  case neg =>
    go_enter Tryd.func4, Tryd.ntmps4
    go_wp2
    go_ret
    exact ⟨rfl, Below.refl _ _⟩
  go_enter Tryd.func4, Tryd.ntmps4
  go_wp2_with fail
  refine (toI_any askera askerc asker _ HK.out ck).mono ?_
  rintro e w1 ⟨v1, rfl, o1, hb⟩
  have B1 := Lib.hid hb
  have I1 := Lib.hid (Ints.of_own o1 (small ck))
  clear hb o1
  go_wp2_with fail
  refine (sasb_any g say v1 asker _ I1.out).mono ?_
  rintro e w2 ⟨rfl, hb⟩
  rw [HR.out]
  have B2 := Lib.hid (Below.on B1.out hb)
  clear hb
  go_wp2_with fail
  refine (toI_any askera askerc asker _ (HK.out.on B2.out) ck).mono ?_
  rintro e w3 ⟨v2, rfl, o2, hb⟩
  have B3 := Lib.hid (Below.on B2.out hb)
  have I3 := Lib.hid (Ints.of_own o2 (small ck))
  clear hb o2
  go_wp2_with fail
  refine (iasb_any g say v2 asker _ (HG.out.on B3.out) I3.out).mono ?_
  rintro e w4 ⟨rfl, hb⟩
  rw [HR.out]
  have B4 := Lib.hid (Below.on B3.out hb)
  have I4 := Lib.hid (I3.out.below hb)
  clear hb
  go_wp2_with fail
  refine (toI_any askera askerc asker _ (HK.out.on B4.out) ck).mono ?_
  rintro e w5 ⟨v3, rfl, o3, hb⟩
  have B5 := Lib.hid (Below.on B4.out hb)
  have I5 := Lib.hid (Ints.of_own o3 (small ck))
  have I6 := Lib.hid (I4.out.below hb)
  clear hb o3
  go_wp2_with fail
  refine (eqs_same v2 v3 asker _ I6.out I5.out).mono ?_
  rintro e w6 ⟨rfl, m, hw⟩
  have B6 := Lib.hid (Below.on B5.out (below_of_drew hw))
  clear hw
  go_wp2
  go_ret
  exact ⟨rfl, B6.out⟩
end Go.Proofs.YtlcegpmhlnilfaaDoor
