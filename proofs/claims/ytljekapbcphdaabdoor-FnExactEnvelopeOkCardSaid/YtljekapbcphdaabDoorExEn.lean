/- The exact laws of chapter 5 over numbers, walked. -/
import Derived.Test.YtljekapbcphdaabDoorEnvS
import Derived.Test.YtljekapbcphdaabDoorBWalk
namespace Go.Proofs.YtljekapbcphdaabDoor
open Go.RowKit

theorem xEnvelopeOk_walk (g s v n f : Int) (w : World) (G : Gr w) : Calls Tryd.prog 3 #[.int .i64 g, .int .i64 s, .int .i64 v, .int .i64 n, .int .i64 f] w fun e w' => e = .returned (.bool true) ∧ Below w.heap.size w w' := by
  cases h : envK g s v n f
  · skip
    go_enter Tryd.func3, Tryd.ntmps3
    go_wp2_with fail
    refine (senk_is h _).mono ?_
    rintro e w1 ⟨rfl, hb⟩
    have B1 := Lib.hid (hb)
    clear hb
    go_wp2_with fail
    refine (ienk_is h _ (G.on B1.out)).mono ?_
    rintro e w2 ⟨rfl, hb⟩
    have B2 := Lib.hid (Below.on B1.out hb)
    clear hb
    go_wp2
    go_ret
    exact ⟨rfl, B2.out⟩
  · skip
    go_enter Tryd.func3, Tryd.ntmps3
    go_wp2_with fail
    refine (senk_is h _).mono ?_
    rintro e w1 ⟨rfl, hb⟩
    have B1 := Lib.hid (hb)
    clear hb
    go_wp2_with fail
    refine (ienk_is h _ (G.on B1.out)).mono ?_
    rintro e w2 ⟨rfl, hb⟩
    have B2 := Lib.hid (Below.on B1.out hb)
    clear hb
    go_wp2
    go_ret
    exact ⟨rfl, B2.out⟩

end Go.Proofs.YtljekapbcphdaabDoor
