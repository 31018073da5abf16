/- The exact law of WaysOf, walked: spec's answer, impl's answer, and that both are the same; the answer owns its memory. -/
import Derived.Test.YtljekapbcphdaaaDoorMarkR
import Derived.Test.YtljekapbcphdaaaDoorWayS
namespace Go.Proofs.YtljekapbcphdaaaDoor
open Go.RowKit

theorem ways_len (g s v : Int) : (ways g s v).length ≤ 600 := by
  cases h : envI g s v
  · rw [ways_no h]; simp
  · obtain ⟨g0, g4⟩ := envI_g h
    obtain ⟨o1, o2⟩ := ord_bd g0 g4
    rw [ways_yes h, waysTo_len]; omega
theorem ways_row (g s v : Int) (j : Nat) (hj : j < (ways g s v).length) : (row (ways g s v) j).length ≤ 2 := by
  cases h : envI g s v
  · rw [ways_no h] at hj; simp at hj
  · rw [ways_yes h, waysTo_len] at hj
    rw [ways_yes h, waysTo_row _ _ _ _ _ hj]; simp

set_option maxHeartbeats 3200000 in
theorem xWaysOf_walk (g s v : Int) (w : World) (G : Gr w) : Calls Tryd.prog 7 #[.int .i64 g, .int .i64 s, .int .i64 v] w fun e w' => e = .returned (.bool true) ∧ Below w.heap.size w w' := by
  have HG := Lib.hid G
  obtain ⟨xss, hxs⟩ : ∃ xss, ways g s v = xss := ⟨_, rfl⟩
  have HXL : Hid (xss.length ≤ 600) := Lib.hid (by rw [← hxs]; exact ways_len _ _ _)
  have HXR : Hid (∀ j, j < xss.length → (row xss j).length ≤ 2) := Lib.hid (by rw [← hxs]; exact ways_row _ _ _)
  have HS := Lib.hid (fun (w' : World) => sways_any g s v w')
  have HI := Lib.hid (fun (w' : World) (G' : Gr w') => iways_any g s v w' G')
  rw [hxs] at HS HI
  clear hxs G
  go_enter Tryd.func7, Tryd.ntmps7
  go_wp2_with fail
  refine (HS.out _).mono ?_
  rintro e w1 ⟨u0, us0, rfl, o, hb⟩
  have B1 := Lib.hid hb
  have O0 := Lib.hid o
  clear hb o
  go_wp2_with fail
  refine (HI.out _ (HG.out.on B1.out)).mono ?_
  rintro e w2 ⟨u1, us1, rfl, o, hb⟩
  have B2 := Lib.hid hb
  have O1 := Lib.hid o
  clear hb o
  go_wp2_with fail
  refine (eqss_any u1 u0 xss _ (ssOf HXL.out HXR.out O1.out) (ssOf HXL.out HXR.out (O0.out.on B2.out))).mono ?_
  rintro e w3 ⟨rfl, m, hw⟩
  have B3 := Lib.hid (below_of_drew hw)
  clear hw m
  have hxl := HXL.out
  have hxc := cnt_le2 xss _ HXR.out
  have z1 : w1.heap.size ≤ w2.heap.size := B2.out.size
  have z2 : w2.heap.size ≤ w3.heap.size := B3.out.size
  go_wp2_with fail
  refine (markSS_any u1 us1 xss 1 w1.heap.size w2.heap.size _ (O1.out.on B3.out) (by omega) (fun j hj => by have := HXR.out j hj; omega) (by omega) (by omega)).mono ?_
  rintro e w4 ⟨rfl, og, out⟩
  have ob := out.below (show w1.heap.size ≤ w3.heap.size by omega)
  have LQ := Lib.hid (Below.trans (Below.on B1.out (Below.on B2.out B3.out)) (ob.mono B1.out.size))
  have VQ := Lib.hid (OwnSS.lowSS (O0.out.on (Below.on B2.out B3.out)) out (by omega) (by omega))
  have GQ := Lib.hid og
  obtain ⟨KC, hKC⟩ : ∃ KC : Int, (1 : Int) + (cnt xss xss.length : Int) = KC := ⟨_, rfl⟩
  have HKC := Lib.hid hKC
  rw [hKC]
  have kc0 : 0 ≤ KC := by omega
  have kc1 : KC ≤ 100000 := by omega
  clear out ob og hxc hKC z1 z2
  have hne : (KC != KC) = false := by simp
  go_wp2_with fail
  refine (held_marked HXL.out HXR.out GQ.out).mono ?_
  rintro e wh ⟨rfl, rfl⟩
  rw [HKC.out]
  go_wp2_with fail
  refine (HI.out _ (HG.out.on LQ.out)).mono ?_
  rintro e w5 ⟨u2, us2, rfl, o, hb⟩
  have B5 := Lib.hid hb
  have O2 := Lib.hid o
  clear hb o
  go_wp2_with fail
  refine (eqss_any u2 u0 xss _ (ssOf HXL.out HXR.out O2.out) (ssOf HXL.out HXR.out (VQ.out.on B5.out))).mono ?_
  rintro e w6 ⟨rfl, m, hw⟩
  have B6 := Lib.hid (below_of_drew hw)
  clear hw m
  go_wp2_with fail
  refine (held_marked HXL.out HXR.out (GQ.out.on (Below.on B5.out B6.out))).mono ?_
  rintro e wh ⟨rfl, rfl⟩
  rw [HKC.out]
  go_wp2
  go_ret
  exact ⟨rfl, Below.on LQ.out (Below.on B5.out B6.out)⟩
end Go.Proofs.YtljekapbcphdaaaDoor
