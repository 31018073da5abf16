/- The exact law of ReadTalk, walked. -/
import Derived.Test.YtacaeoalplggfacDoorReadV
namespace Go.Proofs.YtacaeoalplggfacDoor
open Go.RowKit

set_option maxHeartbeats 800000 in
theorem xReadTalk_walk (g : Int) (s : ByteArray) (w : World) (G : Gr w) (E : Er w) : Calls Tryd.prog 6 #[.int .i64 g, .string s] w fun e w' => e = .returned (.bool true) ∧ Below w.heap.size w w' := by
  by_cases hl : 1048576 < s.size
  · go_enter Tryd.func6, Tryd.ntmps6
    go_wp2
    go_ret
    exact ⟨rfl, Below.refl _ _⟩
  by_cases hv : Valid g s
  · obtain ⟨x, y, z, hx, rfl⟩ := hv
    go_enter Tryd.func6, Tryd.ntmps6
    go_wp2_with fail
    refine (sread_val _ _ _ _ hx _).mono ?_
    rintro e w1 ⟨rfl, hb⟩
    have B1 : Hid (Below w.heap.size w w1) := Lib.hid hb
    clear hb
    go_wp2_with fail
    obtain ⟨w2, hw⟩ : ∃ wz, wz = w1.alloc (.cells #[.int .i64 (x), .int .i64 (y), .int .i64 (z)] 24) := ⟨_, rfl⟩
    have X : Hid (Below (w1.heap.size + 1) (w1.alloc (.cells #[.int .i64 (x), .int .i64 (y), .int .i64 (z)] 24)) w2) := Lib.hid (by rw [hw]; exact Below.refl _ _)
    have B2 : Hid (Below w.heap.size w w2) := Lib.hid (B1.out.trans ((box_end X.out).mono B1.out.size))
    rw [← hw]
    clear hw
    refine (iread_text _ _ _ _ hx _ (G.on B2.out)).mono ?_
    rintro e w3 ⟨rfl, hb⟩
    have B3 : Hid (Below w.heap.size w w3) := Lib.hid (B2.out.trans (hb.mono B2.out.size))
    have X3 := Lib.hid (box_on X.out hb)
    clear hb X
    have X4 := Lib.hid (box_on X3.out (below_alloc w3 (.cells #[.int .i64 (x), .int .i64 (y), .int .i64 (z)] 24)))
    have B4 : Hid (Below w.heap.size w (w3.alloc (.cells #[.int .i64 (x), .int .i64 (y), .int .i64 (z)] 24))) := Lib.hid (B3.out.trans ((below_alloc w3 (.cells #[.int .i64 (x), .int .i64 (y), .int .i64 (z)] 24)).mono B3.out.size))
    obtain ⟨⟨c0, c1, c2⟩, _⟩ := box3 X4.out
    obtain ⟨⟨d0, d1, d2⟩, _⟩ := box3 (Below.refl (w3.heap.size + 1) (w3.alloc (.cells #[.int .i64 (x), .int .i64 (y), .int .i64 (z)] 24)))
    go_wp2_with fail
    refine (eqTalk_any _ _ _ _ _ _ _).mono ?_
    rintro e w5 ⟨rfl, hb⟩
    have B5 : Hid (Below w.heap.size w w5) := Lib.hid (B4.out.trans (hb.mono B4.out.size))
    clear hb
    rw [talkB_refl]
    go_wp2
    go_ret
    exact ⟨rfl, B5.out⟩
  · go_enter Tryd.func6, Tryd.ntmps6
    go_wp2_with fail
    refine (sread_inv _ _ (by omega) hv _).mono ?_
    rintro e w1 ⟨rfl, hb⟩
    have B1 : Hid (Below w.heap.size w w1) := Lib.hid hb
    clear hb
    go_wp2_with fail
    obtain ⟨w2, hw⟩ : ∃ wz, wz = w1.alloc (.cells #[.int .i64 (0), .int .i64 (0), .int .i64 (0)] 24) := ⟨_, rfl⟩
    have X : Hid (Below (w1.heap.size + 1) (w1.alloc (.cells #[.int .i64 (0), .int .i64 (0), .int .i64 (0)] 24)) w2) := Lib.hid (by rw [hw]; exact Below.refl _ _)
    have B2 : Hid (Below w.heap.size w w2) := Lib.hid (B1.out.trans ((box_end X.out).mono B1.out.size))
    rw [← hw]
    clear hw
    refine (iread_inv _ _ (by omega) hv _ (G.on B2.out) (E.on B2.out)).mono ?_
    rintro e w3 ⟨rfl, hb⟩
    have B3 : Hid (Below w.heap.size w w3) := Lib.hid (B2.out.trans (hb.mono B2.out.size))
    have X3 := Lib.hid (box_on X.out hb)
    clear hb X
    have X4 := Lib.hid (box_on X3.out (below_alloc w3 (.cells #[.int .i64 (0), .int .i64 (0), .int .i64 (0)] 24)))
    have B4 : Hid (Below w.heap.size w (w3.alloc (.cells #[.int .i64 (0), .int .i64 (0), .int .i64 (0)] 24))) := Lib.hid (B3.out.trans ((below_alloc w3 (.cells #[.int .i64 (0), .int .i64 (0), .int .i64 (0)] 24)).mono B3.out.size))
    obtain ⟨⟨c0, c1, c2⟩, _⟩ := box3 X4.out
    obtain ⟨⟨d0, d1, d2⟩, _⟩ := box3 (Below.refl (w3.heap.size + 1) (w3.alloc (.cells #[.int .i64 (0), .int .i64 (0), .int .i64 (0)] 24)))
    go_wp2_with fail
    refine (eqTalk_any _ _ _ _ _ _ _).mono ?_
    rintro e w5 ⟨rfl, hb⟩
    have B5 : Hid (Below w.heap.size w w5) := Lib.hid (B4.out.trans (hb.mono B4.out.size))
    clear hb
    rw [talkB_refl]
    go_wp2
    go_ret
    exact ⟨rfl, B5.out⟩

end Go.Proofs.YtacaeoalplggfacDoor
