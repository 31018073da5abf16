/- The exact law of GraphAsker, walked: spec's answer, impl's answer, and that both are the same; no argument is written to; the answer owns its memory. -/
import Derived.Test.YtlcegpmhlnilfaaGaI
import Derived.Test.YtlcegpmhlnilfaaGrC
import Derived.Test.YtlcegpmhlnilfaaBSol
import Derived.Deep.Cut
namespace Go.Proofs.Ytlcegpmhlnilfaa
open Go.RowKit

set_option maxRecDepth 100000 in
set_option maxHeartbeats 12800000 in
theorem xGraphAsker_walk (a0 : Option Addr) (c0 : Nat) (x0 : List Int) (w : World) (h0 : ArgI w a0 x0) (m0 : x0.length ≤ maxLen) :
    Calls Try.prog 3 #[.slice a0 x0.length c0] w fun e w' => e = .returned (.bool true) ∧ Below w.heap.size w w' := by
  have HA0 := Lib.hid h0
  clear h0
  obtain ⟨BB, hBB⟩ : ∃ r, fouB x0 = r := ⟨_, rfl⟩
  have HBB := Lib.hid hBB
  clear hBB
  unfold maxLen at m0
  have SS0 : Hid (Sx w [] [] w) := Lib.hid (Sx.start w)
  by_cases s0 : x0.length ≤ 1048576
  case neg =>
    go_enter Try.func3, Try.ntmps3
    go_wp2
    go_ret
    exact ⟨rfl, SS0.out.be⟩
  have S1 := Lib.hid SS0.out
  have Z1 : Hid (w.heap.size ≤ w.heap.size) := Lib.hid (Nat.le_refl _)
  clear SS0
  go_enter Try.func3, Try.ntmps3
  go_wp2_with fail
  refine (toI_any a0 c0 x0 _ (HA0.out.on S1.out.be) s0).mono ?_
  rintro e w2 ⟨v9, rfl, oo, hb⟩
  have S2 := Lib.hid (S1.out.on hb)
  clear S1
  have hz := hb.size
  obtain ⟨Azc0, Czc0, ef⟩ := Own.form oo
  subst ef
  have S3 := Lib.hid (S2.out.add (Hl.mk1 oo))
  clear S2
  have Z2 : Hid (w.heap.size ≤ w2.heap.size) := Lib.hid (hz)
  clear hb oo hz
  go_wp2_with fail
  refine (sgar_any _ x0 _ (Ints.of_own (S3.out.ls _ (.head _)).1 (small20 s0))).mono ?_
  rintro e w3 ⟨rfl, hb⟩
  try rw [HBB.out]
  have S4 := Lib.hid (S3.out.on hb)
  clear S3
  have hz := hb.size
  have Z3 : Hid (w2.heap.size ≤ w3.heap.size) := Lib.hid (hz)
  clear hb hz
  go_wp2_with fail
  refine (toI_any a0 c0 x0 _ (HA0.out.on S4.out.be) s0).mono ?_
  rintro e w4 ⟨v9, rfl, oo, hb⟩
  have S5 := Lib.hid (S4.out.on hb)
  clear S4
  have hz := hb.size
  obtain ⟨Ax0, Cx0, ef⟩ := Own.form oo
  subst ef
  have S6 := Lib.hid (S5.out.add (Hl.mk1 oo))
  clear S5
  have Z4 : Hid (w3.heap.size ≤ w4.heap.size) := Lib.hid (hz)
  clear hb oo hz
  go_wp2_with fail
  refine (igar_any _ x0 _ (Ints.of_own (S6.out.ls _ (.head _)).1 (small20 s0))).mono ?_
  rintro e w5 ⟨rfl, hb⟩
  try rw [HBB.out]
  have S7 := Lib.hid (S6.out.on hb)
  clear S6
  have hz := hb.size
  have Z5 : Hid (w4.heap.size ≤ w5.heap.size) := Lib.hid (hz)
  clear hb hz
  have hbb : (BB != BB) = false := by simp
  go_wp2_with fail
  refine (toI_any a0 c0 x0 _ (HA0.out.on S7.out.be) s0).mono ?_
  rintro e w6 ⟨v9, rfl, oo, hb⟩
  have I9 := Lib.hid (Ints.of_own oo (small20 s0))
  have S8 := Lib.hid (S7.out.on hb)
  clear S7
  have Z6 : Hid (w5.heap.size ≤ w6.heap.size) := Lib.hid (hb.size)
  clear hb oo
  go_wp2_with fail
  refine (eqI_any _ v9 x0 _ (Ints.of_own (S8.out.ls _ (.head _)).1 (small20 s0)) I9.out).mono ?_
  rintro e w7 ⟨rfl, hb⟩
  have S9 := Lib.hid (S8.out.on hb)
  clear S8
  have Z7 : Hid (w6.heap.size ≤ w7.heap.size) := Lib.hid (hb.size)
  clear hb I9
  go_wp2
  go_ret
  exact ⟨rfl, S9.out.be⟩
end Go.Proofs.Ytlcegpmhlnilfaa
