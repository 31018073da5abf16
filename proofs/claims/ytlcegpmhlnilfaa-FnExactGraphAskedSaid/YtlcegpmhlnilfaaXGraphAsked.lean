/- The exact law of GraphAsked, walked: spec's answer, impl's answer, and that both are the same; no argument is written to; the answer owns its memory. -/
import Derived.Test.YtlcegpmhlnilfaaGaI
import Derived.Test.YtlcegpmhlnilfaaGrC
import Derived.Test.YtlcegpmhlnilfaaBSol
import Derived.Deep.Cut
namespace Go.Proofs.Ytlcegpmhlnilfaa
open Go.RowKit

set_option maxRecDepth 100000 in
set_option maxHeartbeats 12800000 in
theorem xGraphAsked_walk (a0 : Option Addr) (c0 : Nat) (x0 : List Int) (p1 : Int) (a1 : Option Addr) (c1 : Nat) (x1 : List Int) (w : World) (h0 : ArgI w a0 x0) (m0 : x0.length ≤ maxLen) (h1 : ArgI w a1 x1) (m1 : x1.length ≤ maxLen) (ip1 : intIn p1) (ix1 : ∀ j, j < x1.length → intIn (nth x1 j)) :
    Calls Try.prog 4 #[.slice a0 x0.length c0, .agg #[.int .i64 p1, .slice a1 x1.length c1]] w fun e w' => e = .returned (.bool true) ∧ Below w.heap.size w w' := by
  have HA0 := Lib.hid h0
  clear h0
  have HA1 := Lib.hid h1
  clear h1
  have IP1 := Lib.hid ip1
  have IX1 := Lib.hid ix1
  clear ip1 ix1
  obtain ⟨BB, hBB⟩ : ∃ r, gasB x0 p1 x1 = r := ⟨_, rfl⟩
  have HBB := Lib.hid hBB
  clear hBB
  have HM1 := Lib.hid m1
  clear m1
  unfold maxLen at m0
  have SS0 : Hid (Sx w [] [] w) := Lib.hid (Sx.start w)
  have SS1 : Hid (Sx w [(w.heap.size, [.int .i64 p1, .slice a1 x1.length c1])] [] (w.alloc (.cells #[.int .i64 p1, .slice a1 x1.length c1] 27))) := Lib.hid (SS0.out.made [.int .i64 p1, .slice a1 x1.length c1] 27)
  clear SS0
  by_cases s0 : x0.length ≤ 1048576
  case neg =>
    go_enter Try.func4, Try.ntmps4
    go_wp2
    go_ret
    exact ⟨rfl, SS1.out.be⟩
  obtain ⟨w1, hw1⟩ : ∃ z, z = (w.alloc (.cells #[.int .i64 p1, .slice a1 x1.length c1] 27)) := ⟨_, rfl⟩
  have S1 : Hid (Sx w [(w.heap.size, [.int .i64 p1, .slice a1 x1.length c1])] [] w1) := Lib.hid (by rw [hw1]; exact SS1.out)
  have Z1 : Hid (w1.heap.size = w.heap.size + 1) := Lib.hid (by rw [hw1]; simp)
  have Hw1 := Lib.hid hw1
  clear hw1 SS1
  go_enter Try.func4, Try.ntmps4
  go_wp2_with fail
  rw [← Hw1.out]
  refine (szgr_any p1 a1 x1.length c1 1048576 _ HM1.out (by omega) (by omega)).mono ?_
  rintro e w2 ⟨r1, rfl, hb, hres⟩
  have S2 := Lib.hid (S1.out.on hb)
  clear S1
  have Z2 : Hid (w1.heap.size ≤ w2.heap.size) := Lib.hid (hb.size)
  clear hb
  rcases hres with rfl | ⟨ra1, rb1, s1⟩
  · go_wp2
    go_ret
    exact ⟨rfl, S2.out.be⟩
  have rc1 : r1 ≤ 1048576 := by omega
  go_wp2_with fail
  apply wp_region_H (Z := List Cp × Option (Nat × List Value)) (S := fun k => k == 1 || k == 3 || k == 4) (C := fun z w' => Hid (Zx w2 z.1 z.2 w')) [0, 2] ([], none)
  · kernel_rfl
  · kernel_rfl
  · kernel_rfl
  · exact ⟨rfl, rfl, trivial⟩
  · rfl
  · decide
  · exact Lib.hid (Zx.start (Below.refl _ _).drew)
  · intro z
    dsimp only [pickL, nthO]
    go_big_quiet_want; go_big_quiet_op; first | go_big_quiet_on | (refine ⟨_, fun _ _ => rfl, ?_⟩; go_big_quiet_on)
    go_big_quiet_want
    go_big_quiet_op
    refine ⟨.agg #[.int .i64 p1, .slice a1 x1.length c1], fun w' hw' => ?_, ?_⟩
    · have q9 := (S2.out.on hw'.out.be).bx _ (.head _)
      have q0 := q9.cell 0
      have q1 := q9.cell 1
      simp at q0 q1
      simp [go_sem, q0, q1]
    go_big_quiet_on
    exact wpQuiet_nil rfl
  · skip
    refine wpAnyH_call (i := 1) (d := some 19) 9 #[.slice a0 x0.length c0] rfl (by kernel_rfl) rfl rfl (by kernel_rfl) (fun _ => by kernel_rfl) fun waz0 hc => ?_
    refine (toI_any a0 c0 x0 waz0 (HA0.out.on (S2.out.on hc.out.be).be) s0).mono ?_
    rintro e wbz0 ⟨vz0, rfl, oo, hb⟩
    refine ⟨_, rfl, ([.l waz0.heap.size wbz0.heap.size vz0 x0], none), Lib.hid (hc.out.add hb (Hl.mk1 oo) (Nat.le_refl _)), ?_⟩
    clear oo hb hc
    refine wpAnyH_call (i := 3) (d := some 21) 14 #[.agg #[.int .i64 p1, .slice a1 x1.length c1]] rfl (by kernel_rfl) rfl rfl (by kernel_rfl) (fun _ => by kernel_rfl) fun waz1 hc => ?_
    refine (togr_any p1 a1 c1 x1 waz1 (HA1.out.on (S2.out.on hc.out.be).be) s1).mono ?_
    rintro e wbz1 ⟨vz1, rfl, oo, hb⟩
    refine ⟨_, rfl, ([.l waz1.heap.size wbz1.heap.size vz1 x1, .l waz0.heap.size wbz0.heap.size vz0 x0], none), Lib.hid (hc.out.add hb (Hl.mk1 oo) (Nat.le_refl _)), ?_⟩
    clear oo hb hc
    refine wpAnyH_call (i := 4) (d := some 22) 13 #[vz0, .agg #[.int .i64 p1, vz1]] rfl (by kernel_rfl) rfl rfl (by kernel_rfl) (fun _ => by kernel_rfl) fun wcz hc => ?_
    refine (sgas_any _ _ x0 x1 p1 wcz (Ints.of_own (hc.out.ls _ (.tail _ (.head _))).1 (small20 s0)) (Ints.of_own (hc.out.ls _ (.head _)).1 (small20 s1)) IP1.out IX1.out).mono ?_
    rintro e wdz ⟨rfl, hb⟩
    try rw [HBB.out]
    refine ⟨_, rfl, ([], none), Lib.hid ((hc.out.on hb).sub (fun _ m => (by cases m))), ?_⟩
    clear hb hc
    refine wpAnyH_take (i := 5) (d := some 6) (.int .i64 BB) rfl (by kernel_rfl) rfl rfl (by kernel_rfl) (by kernel_rfl) (by kernel_rfl) (fun _ => by kernel_rfl) ?_
    refine ⟨by kernel_rfl, fun w3 hz => ?_⟩
    simp only [Act.put, List.setIfInBounds_toArray, List.set_cons_zero, List.set_cons_succ]
    have S3 := Lib.hid ((S2.out.on hz.out.be))
    clear S2
    have Z3 : Hid (w2.heap.size ≤ w3.heap.size) := Lib.hid (hz.out.be.size)
    clear hz
    go_wp2_with fail
    refine (toI_any a0 c0 x0 _ (HA0.out.on S3.out.be) s0).mono ?_
    rintro e w4 ⟨v9, rfl, oo, hb⟩
    have S4 := Lib.hid (S3.out.on hb)
    clear S3
    have hz := hb.size
    obtain ⟨Ax0, Cx0, ef⟩ := Own.form oo
    subst ef
    have S5 := Lib.hid (S4.out.add (Hl.mk1 oo))
    clear S4
    have Z4 : Hid (w3.heap.size ≤ w4.heap.size) := Lib.hid (hz)
    clear hb oo hz
    have qH1_0 := (S5.out.bx _ (.head _)).cell 0
    have qH1_1 := (S5.out.bx _ (.head _)).cell 1
    simp at qH1_0 qH1_1
    go_wp2_with fail
    refine (togr_any p1 a1 c1 x1 _ (HA1.out.on S5.out.be) s1).mono ?_
    rintro e w5 ⟨v9, rfl, oo, hb⟩
    clear qH1_0 qH1_1
    have S6 := Lib.hid (S5.out.on hb)
    clear S5
    have hz := hb.size
    obtain ⟨Ax1, Cx1, ef⟩ := Own.form oo
    subst ef
    have S7 := Lib.hid (S6.out.add (Hl.mk1 oo))
    clear S6
    have Z5 : Hid (w4.heap.size ≤ w5.heap.size) := Lib.hid (hz)
    clear hb oo hz
    obtain ⟨w6, hw6⟩ : ∃ z, z = w5.alloc (.cells #[.int .i64 p1, .slice Ax1 x1.length Cx1] 30) := ⟨_, rfl⟩
    have S8 : Hid (Sx w [(w5.heap.size, [.int .i64 p1, .slice Ax1 x1.length Cx1]), (w.heap.size, [.int .i64 p1, .slice a1 x1.length c1])] [.l w4.heap.size w5.heap.size (.slice Ax1 x1.length Cx1) x1, .l w3.heap.size w4.heap.size (.slice Ax0 x0.length Cx0) x0] w6) := Lib.hid (by rw [hw6]; exact S7.out.made [.int .i64 p1, .slice Ax1 x1.length Cx1] _)
    clear S7
    have Z6 : Hid (w6.heap.size = w5.heap.size + 1) := Lib.hid (by rw [hw6]; simp)
    have Hw6 := Lib.hid hw6
    clear hw6
    have qx1_0 := (S8.out.bx _ (.head _)).cell 0
    have qx1_1 := (S8.out.bx _ (.head _)).cell 1
    simp at qx1_0 qx1_1
    rw [Hw6.out] at qx1_0 qx1_1
    go_wp2_with fail
    rw [← Hw6.out]
    refine (igas_any _ _ x0 x1 p1 _ (Ints.of_own (S8.out.ls _ (.tail _ (.head _))).1 (small20 s0)) (Ints.of_own (S8.out.ls _ (.head _)).1 (small20 s1)) IX1.out).mono ?_
    rintro e w7 ⟨rfl, hb⟩
    clear qx1_0 qx1_1
    try rw [HBB.out]
    have S9 := Lib.hid (S8.out.on hb)
    clear S8
    have hz := hb.size
    have Z7 : Hid (w6.heap.size ≤ w7.heap.size) := Lib.hid (hz)
    clear hb hz
    have hbb : (BB != BB) = false := by simp
    go_wp2_with fail
    refine (toI_any a0 c0 x0 _ (HA0.out.on S9.out.be) s0).mono ?_
    rintro e w8 ⟨v9, rfl, oo, hb⟩
    have I9 := Lib.hid (Ints.of_own oo (small20 s0))
    have S10 := Lib.hid (S9.out.on hb)
    clear S9
    have Z8 : Hid (w7.heap.size ≤ w8.heap.size) := Lib.hid (hb.size)
    clear hb oo
    go_wp2_with fail
    refine (eqI_any _ v9 x0 _ (Ints.of_own (S10.out.ls _ (.tail _ (.head _))).1 (small20 s0)) I9.out).mono ?_
    rintro e w9 ⟨rfl, hb⟩
    have S11 := Lib.hid (S10.out.on hb)
    clear S10
    have Z9 : Hid (w8.heap.size ≤ w9.heap.size) := Lib.hid (hb.size)
    clear hb I9
    go_wp2_with fail
    apply wp_region_H (Z := List Cp × Option (Nat × List Value)) (S := fun k => k == 2 || k == 3 || k == 4) (C := fun z w' => Hid (Zx w9 z.1 z.2 w')) [0, 1] ([], none)
    · kernel_rfl
    · kernel_rfl
    · kernel_rfl
    · exact ⟨rfl, rfl, trivial⟩
    · rfl
    · decide
    · exact Lib.hid (Zx.start (Below.refl _ _).drew)
    · intro z
      dsimp only [pickL, nthO]
      go_big_quiet_want
      go_big_quiet_op
      refine ⟨.agg #[.int .i64 p1, .slice Ax1 x1.length Cx1], fun w' hw' => ?_, ?_⟩
      · have q9 := (S11.out.on hw'.out.be).bx _ (.head _)
        have q0 := q9.cell 0
        have q1 := q9.cell 1
        simp at q0 q1
        simp [go_sem, q0, q1]
      go_big_quiet_on
      go_big_quiet_want
      go_big_quiet_op
      refine ⟨.agg #[.int .i64 p1, .slice a1 x1.length c1], fun w' hw' => ?_, ?_⟩
      · have q9 := (S11.out.on hw'.out.be).bx _ (.tail _ (.head _))
        have q0 := q9.cell 0
        have q1 := q9.cell 1
        simp at q0 q1
        simp [go_sem, q0, q1]
      go_big_quiet_on
      exact wpQuiet_nil rfl
    · skip
      refine wpAnyH_call (i := 2) (d := some 40) 14 #[.agg #[.int .i64 p1, .slice a1 x1.length c1]] rfl (by kernel_rfl) rfl rfl (by kernel_rfl) (fun _ => by kernel_rfl) fun wae0 hc => ?_
      refine (togr_any p1 a1 c1 x1 wae0 (HA1.out.on (S11.out.on hc.out.be).be) s1).mono ?_
      rintro e wbe0 ⟨ve0, rfl, oo, hb⟩
      refine ⟨_, rfl, ([.l wae0.heap.size wbe0.heap.size ve0 x1], none), Lib.hid (hc.out.add hb (Hl.mk1 oo) (Nat.le_refl _)), ?_⟩
      clear oo hb hc
      refine wpAnyH_call (i := 3) (d := some 41) 16 #[.agg #[.int .i64 p1, .slice Ax1 x1.length Cx1], .agg #[.int .i64 p1, ve0]] rfl (by kernel_rfl) rfl rfl (by kernel_rfl) (fun _ => by kernel_rfl) fun wc hc => ?_
      refine (eqgr_any p1 _ _ x1 wc (Ints.of_own ((Lib.hid (S11.out.on hc.out.be)).out.ls _ (.head _)).1 (small20 s1)) (Ints.of_own (hc.out.ls _ (.head _)).1 (small20 s1))).mono ?_
      rintro e wd ⟨rfl, hb⟩
      refine ⟨_, rfl, ([], none), Lib.hid ((hc.out.on hb).sub (fun _ m => (by cases m))), ?_⟩
      clear hb hc
      refine wpAnyH_special (i := 4) (d := some 42) rfl (by kernel_rfl) rfl rfl (by kernel_rfl) fun wy hcy => ⟨.bool false, wy, ([], none), .inl (by kernel_rfl), hcy, ?_⟩
      refine ⟨by kernel_rfl, fun w10 hz => ?_⟩
      simp only [Act.put, List.setIfInBounds_toArray, List.set_cons_zero, List.set_cons_succ]
      have S12 := Lib.hid (S11.out.on hz.out.be)
      clear S11
      have Z10 : Hid (w9.heap.size ≤ w10.heap.size) := Lib.hid (hz.out.be.size)
      clear hz hcy
      go_wp2
      go_ret
      exact ⟨rfl, S12.out.be⟩
end Go.Proofs.Ytlcegpmhlnilfaa
