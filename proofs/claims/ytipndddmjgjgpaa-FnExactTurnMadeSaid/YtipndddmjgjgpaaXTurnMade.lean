/- The exact law of TurnMade, walked: spec's answer, impl's answer, and that both are the same; no argument is written to; the answer owns its memory. -/
import Derived.Test.YtipndddmjgjgpaaTrnX
import Derived.Test.YtipndddmjgjgpaaGrC
import Derived.Test.YtipndddmjgjgpaaRegionL
import Derived.Deep.Cut
namespace Go.Proofs.Ytipndddmjgjgpaa
open Go.RowKit

set_option maxRecDepth 100000 in
set_option maxHeartbeats 12800000 in
theorem xTurnMade_walk (p0 : Int) (a0 : Option Addr) (c0 : Nat) (x0 : List Int) (p1 : Int) (a1 : Option Addr) (c1 : Nat) (x1 : List Int) (n2 : Int) (a3 : Option Addr) (c3 : Nat) (x3 : List Int) (w : World) (h0 : ArgI w a0 x0) (m0 : x0.length ≤ maxLen) (ip0 : intIn p0) (ix0 : ∀ j, j < x0.length → intIn (nth x0 j)) (h1 : ArgI w a1 x1) (m1 : x1.length ≤ maxLen) (ip1 : intIn p1) (ix1 : ∀ j, j < x1.length → intIn (nth x1 j)) (h3 : ArgI w a3 x3) (m3 : x3.length ≤ maxLen) :
    Calls Try.prog 11 #[.agg #[.int .i64 p0, .slice a0 x0.length c0], .agg #[.int .i64 p1, .slice a1 x1.length c1], .int .i64 n2, .slice a3 x3.length c3] w fun e w' => e = .returned (.bool true) ∧ Below w.heap.size w w' := by
  have HA0 := Lib.hid h0
  clear h0
  have IP0 := Lib.hid ip0
  have IX0 := Lib.hid ix0
  clear ip0 ix0
  have HA1 := Lib.hid h1
  clear h1
  have IP1 := Lib.hid ip1
  have IX1 := Lib.hid ix1
  clear ip1 ix1
  have HA3 := Lib.hid h3
  clear h3
  obtain ⟨PG, hPG⟩ : ∃ r, mdPx p0 x0 p1 x1 n2 x3 = r := ⟨_, rfl⟩
  obtain ⟨XS, hXS⟩ : ∃ r, mdEx p0 x0 p1 x1 n2 x3 = r := ⟨_, rfl⟩
  obtain ⟨NG, hNG⟩ : ∃ r, mdNx p0 x0 p1 x1 n2 x3 = r := ⟨_, rfl⟩
  obtain ⟨YS, hYS⟩ : ∃ r, mdYx p0 x0 p1 x1 n2 x3 = r := ⟨_, rfl⟩
  obtain ⟨BB, hBB⟩ : ∃ r, mdT p0 x0 p1 x1 n2 x3 = r := ⟨_, rfl⟩
  have HXL : Hid (XS.length ≤ maxLen) := Lib.hid (by rw [← hXS]; exact few50 mdEx_few)
  have HXM : Hid (XS.length ≤ 1000) := Lib.hid (by rw [← hXS]; exact Nat.le_trans mdEx_few (by omega))
  have HYL : Hid (YS.length ≤ maxLen) := Lib.hid (by rw [← hYS]; exact few5 mdYx_few)
  have HYM : Hid (YS.length ≤ 1000) := Lib.hid (by rw [← hYS]; exact Nat.le_trans mdYx_few (by omega))
  have HPG := Lib.hid hPG
  clear hPG
  have HXS := Lib.hid hXS
  clear hXS
  have HNG := Lib.hid hNG
  clear hNG
  have HYS := Lib.hid hYS
  clear hYS
  have HBB := Lib.hid hBB
  clear hBB
  have HM0 := Lib.hid m0
  clear m0
  have HM1 := Lib.hid m1
  clear m1
  unfold maxLen at m3
  have SS0 : Hid (Sx w [] [] w) := Lib.hid (Sx.start w)
  have SS1 : Hid (Sx w [(w.heap.size, [.int .i64 p0, .slice a0 x0.length c0])] [] (w.alloc (.cells #[.int .i64 p0, .slice a0 x0.length c0] 24))) := Lib.hid (SS0.out.made [.int .i64 p0, .slice a0 x0.length c0] 24)
  clear SS0
  have SS2 : Hid (Sx w [(w.heap.size + 1, [.int .i64 p1, .slice a1 x1.length c1]), (w.heap.size, [.int .i64 p0, .slice a0 x0.length c0])] [] ((w.alloc (.cells #[.int .i64 p0, .slice a0 x0.length c0] 24)).alloc (.cells #[.int .i64 p1, .slice a1 x1.length c1] 24))) := Lib.hid (by have := SS1.out.made [.int .i64 p1, .slice a1 x1.length c1] 24; simpa using this)
  clear SS1
  by_cases s3 : x3.length ≤ 1048576
  case neg =>
    go_enter Try.func11, Try.ntmps11
    go_wp2
    go_ret
    exact ⟨rfl, SS2.out.be⟩
  obtain ⟨w1, hw1⟩ : ∃ z, z = ((w.alloc (.cells #[.int .i64 p0, .slice a0 x0.length c0] 24)).alloc (.cells #[.int .i64 p1, .slice a1 x1.length c1] 24)) := ⟨_, rfl⟩
  have S1 : Hid (Sx w [(w.heap.size + 1, [.int .i64 p1, .slice a1 x1.length c1]), (w.heap.size, [.int .i64 p0, .slice a0 x0.length c0])] [] w1) := Lib.hid (by rw [hw1]; exact SS2.out)
  have Z1 : Hid (w1.heap.size = w.heap.size + 2) := Lib.hid (by rw [hw1]; simp)
  have Hw1 := Lib.hid hw1
  clear hw1 SS2
  go_enter Try.func11, Try.ntmps11
  go_wp2_with fail
  rw [← Hw1.out]
  refine (szgr_any p0 a0 x0.length c0 1048576 _ HM0.out (by omega) (by omega)).mono ?_
  rintro e w2 ⟨r0, rfl, hb, hres⟩
  have S2 := Lib.hid (S1.out.on hb)
  clear S1
  have Z2 : Hid (w1.heap.size ≤ w2.heap.size) := Lib.hid (hb.size)
  clear hb
  rcases hres with rfl | ⟨ra0, rb0, s0⟩
  · go_wp2
    go_ret
    exact ⟨rfl, S2.out.be⟩
  have rc0 : r0 ≤ 1048576 := by omega
  have qH1_0 := (S2.out.bx _ (.head _)).cell 0
  have qH1_1 := (S2.out.bx _ (.head _)).cell 1
  simp at qH1_0 qH1_1
  go_wp2_with fail
  refine (szgr_any p1 a1 x1.length c1 r0 _ HM1.out (by omega) (by omega)).mono ?_
  rintro e w3 ⟨r1, rfl, hb, hres⟩
  clear qH1_0 qH1_1
  have S3 := Lib.hid (S2.out.on hb)
  clear S2
  have Z3 : Hid (w2.heap.size ≤ w3.heap.size) := Lib.hid (hb.size)
  clear hb
  rcases hres with rfl | ⟨ra1, rb1, s1⟩
  · go_wp2
    go_ret
    exact ⟨rfl, S3.out.be⟩
  have rc1 : r1 ≤ 1048576 := by omega
  go_wp2_with fail
  apply wp_region_H (Z := List Cp × Option (Nat × List Value)) (S := fun k => k == 1 || k == 3 || k == 6 || k == 7 || k == 11 || k == 12) (C := fun z w' => Hid (Zx w3 z.1 z.2 w')) [0, 2, 4, 5] ([], none)
  · kernel_rfl
  · kernel_rfl
  · kernel_rfl
  · exact ⟨rfl, rfl, rfl, rfl, trivial⟩
  · rfl
  · decide
  · exact Lib.hid (Zx.start (Below.refl _ _).drew)
  · intro z
    dsimp only [pickL, nthO]
    go_big_quiet_want
    go_big_quiet_op
    refine ⟨.agg #[.int .i64 p0, .slice a0 x0.length c0], fun w' hw' => ?_, ?_⟩
    · have q9 := (S3.out.on hw'.out.be).bx _ (.tail _ (.head _))
      have q0 := q9.cell 0
      have q1 := q9.cell 1
      simp at q0 q1
      simp [go_sem, q0, q1]
    go_big_quiet_on
    go_big_quiet_want
    go_big_quiet_op
    refine ⟨.agg #[.int .i64 p1, .slice a1 x1.length c1], fun w' hw' => ?_, ?_⟩
    · have q9 := (S3.out.on hw'.out.be).bx _ (.head _)
      have q0 := q9.cell 0
      have q1 := q9.cell 1
      simp at q0 q1
      simp [go_sem, q0, q1]
    go_big_quiet_on
    go_big_quiet_want; go_big_quiet_op; first | go_big_quiet_on | (refine ⟨_, fun _ _ => rfl, ?_⟩; go_big_quiet_on)
    go_big_quiet_want; go_big_quiet_op; first | go_big_quiet_on | (refine ⟨_, fun _ _ => rfl, ?_⟩; go_big_quiet_on)
    exact wpQuiet_nil rfl
  · skip
    refine wpAnyH_key (D := Value × Value × Value × Option Addr × Nat × Option Addr × Nat × Nat × Nat × Nat) (fun d => ([.p d.2.2.2.2.2.2.2.1 d.2.2.2.2.2.2.2.2.1 (.slice d.2.2.2.1 XS.length d.2.2.2.2.1) (.slice d.2.2.2.2.2.1 YS.length d.2.2.2.2.2.2.1) XS YS], some (d.2.2.2.2.2.2.2.2.2, [.int .i64 PG, .slice d.2.2.2.1 XS.length d.2.2.2.2.1, .int .i64 NG, .slice d.2.2.2.2.2.1 YS.length d.2.2.2.2.2.2.1]))) (fun d a => (((((((((a.put (some 37) (.agg #[.int .i64 p0, d.1])).put (some 39) (.agg #[.int .i64 p1, d.2.1])).put (some 42) (d.2.2.1)).put (some 43) (.tuple #[.agg #[.int .i64 PG, .slice d.2.2.2.1 XS.length d.2.2.2.2.1, .int .i64 NG, .slice d.2.2.2.2.2.1 YS.length d.2.2.2.2.2.2.1], .bool BB])).put (some 35) (.tuple #[.agg #[.int .i64 PG, .slice d.2.2.2.1 XS.length d.2.2.2.2.1, .int .i64 NG, .slice d.2.2.2.2.2.1 YS.length d.2.2.2.2.2.2.1], .bool BB])).put (some 44) (.agg #[.int .i64 PG, .slice d.2.2.2.1 XS.length d.2.2.2.2.1, .int .i64 NG, .slice d.2.2.2.2.2.1 YS.length d.2.2.2.2.2.2.1])).put (some 45) (.bool BB)).put (some 10) (.pointer (some ⟨d.2.2.2.2.2.2.2.2.2, 0, none⟩))).put (some 11) (.bool BB))) ?_ ?_
    · skip
      refine wpAnyH_two 1 11 (by kernel_rfl) ?_ ?_
      · skip
        refine hOp_call 16 #[.agg #[.int .i64 p0, .slice a0 x0.length c0]] (d := some 37) rfl rfl rfl (by kernel_rfl) (fun _ => by kernel_rfl) fun waz0 hc => ?_
        refine (togr_any p0 a0 c0 x0 waz0 (HA0.out.on (S3.out.on hc.out.be).be) s0).mono ?_
        rintro e wbz0 ⟨vz0, rfl, oo, hb⟩
        refine ⟨_, rfl, ([.l waz0.heap.size wbz0.heap.size vz0 x0], none), Lib.hid (hc.out.add hb (Hl.mk1 oo) (Nat.le_refl _)), ?_⟩
        clear oo hb hc
        refine wpAnyH_two 3 11 (by kernel_rfl) ?_ ?_
        · skip
          refine hOp_call 16 #[.agg #[.int .i64 p1, .slice a1 x1.length c1]] (d := some 39) rfl rfl rfl (by kernel_rfl) (fun _ => by kernel_rfl) fun waz1 hc => ?_
          refine (togr_any p1 a1 c1 x1 waz1 (HA1.out.on (S3.out.on hc.out.be).be) s1).mono ?_
          rintro e wbz1 ⟨vz1, rfl, oo, hb⟩
          refine ⟨_, rfl, ([.l waz1.heap.size wbz1.heap.size vz1 x1, .l waz0.heap.size wbz0.heap.size vz0 x0], none), Lib.hid (hc.out.add hb (Hl.mk1 oo) (Nat.le_refl _)), ?_⟩
          clear oo hb hc
          refine wpAnyH_two 6 11 (by kernel_rfl) ?_ ?_
          · skip
            refine hOp_call 20 #[.slice a3 x3.length c3] (d := some 42) rfl rfl rfl (by kernel_rfl) (fun _ => by kernel_rfl) fun waz2 hc => ?_
            refine (toI_any a3 c3 x3 waz2 (HA3.out.on (S3.out.on hc.out.be).be) s3).mono ?_
            rintro e wbz2 ⟨vz2, rfl, oo, hb⟩
            refine ⟨_, rfl, ([.l waz2.heap.size wbz2.heap.size vz2 x3, .l waz1.heap.size wbz1.heap.size vz1 x1, .l waz0.heap.size wbz0.heap.size vz0 x0], none), Lib.hid (hc.out.add hb (Hl.mk1 oo) (Nat.le_refl _)), ?_⟩
            clear oo hb hc
            refine wpAnyH_two 7 11 (by kernel_rfl) ?_ ?_
            · skip
              refine hOp_call 47 #[.agg #[.int .i64 p0, vz0], .agg #[.int .i64 p1, vz1], .int .i64 n2, vz2] (d := some 43) rfl rfl rfl (by kernel_rfl) (fun _ => by kernel_rfl) fun wcz hc => ?_
              refine (((stmd_any p0 p1 n2 _ _ _ x0 x1 x3 wcz (Ints.of_own (hc.out.ls _ (.tail _ (.tail _ (.head _)))).1 (small20 s0)) (Ints.of_own (hc.out.ls _ (.tail _ (.head _))).1 (small20 s1)) (Ints.of_own (hc.out.ls _ (.head _)).1 (small20 s3)) IP0.out IP1.out IX0.out IX1.out).mono fun _ _ h => h.x)).mono ?_
              rintro e wdz ⟨vz, uz, rfl, oo, o2, oa, hb⟩
              try rw [HPG.out]
              try rw [HXS.out] at oo
              try rw [HNG.out]
              try rw [HYS.out]
              try rw [HBB.out]
              try rw [HYS.out] at o2
              obtain ⟨Azr, Czr, ef⟩ := Own.form oo
              obtain ⟨Bzr, Dzr, eg⟩ := Own.form o2
              subst ef eg
              refine ⟨_, rfl, ([.p wcz.heap.size wdz.heap.size (.slice Azr XS.length Czr) (.slice Bzr YS.length Dzr) XS YS], none), Lib.hid (((hc.out.sub (L' := []) (fun _ m => (by cases m))).add hb (Hl.mk2 oo o2 oa) (Nat.le_refl _))), ?_⟩
              clear hb oo o2 oa hc
              refine wpAnyH_take (i := 8) (d := some 35) (.tuple #[.agg #[.int .i64 PG, .slice Azr XS.length Czr, .int .i64 NG, .slice Bzr YS.length Dzr], .bool BB]) rfl (by kernel_rfl) rfl rfl (by kernel_rfl) (by kernel_rfl) (by kernel_rfl) (fun _ => by kernel_rfl) ?_
              refine wpAnyH_take (i := 9) (d := some 44) (.agg #[.int .i64 PG, .slice Azr XS.length Czr, .int .i64 NG, .slice Bzr YS.length Dzr]) rfl (by kernel_rfl) rfl rfl (by kernel_rfl) (by kernel_rfl) (by kernel_rfl) (fun _ => by kernel_rfl) ?_
              refine wpAnyH_take (i := 10) (d := some 45) (.bool BB) rfl (by kernel_rfl) rfl rfl (by kernel_rfl) (by kernel_rfl) (by kernel_rfl) (fun _ => by kernel_rfl) ?_
              refine wpAnyH_special (i := 11) (d := some 10) rfl (by kernel_rfl) rfl rfl (by kernel_rfl) fun wN hc => ⟨.pointer (some ⟨wN.heap.size, 0, none⟩), wN.alloc (.cells #[.int .i64 0, .slice none 0 0, .int .i64 0, .slice none 0 0] 50), ([.p wcz.heap.size wdz.heap.size (.slice Azr XS.length Czr) (.slice Bzr YS.length Dzr) XS YS], some (wN.heap.size, [.int .i64 0, .slice none 0 0, .int .i64 0, .slice none 0 0])), .inl (by kernel_rfl), Lib.hid (hc.out.made [.int .i64 0, .slice none 0 0, .int .i64 0, .slice none 0 0] _), ?_⟩
              clear hc
              refine wpAnyH_special (i := 12) (d := none) rfl (by kernel_rfl) rfl rfl (by kernel_rfl) fun we he => ?_
              have kb := (he.out.bx _ _ rfl).2.1
              have k0 := kb.cell 0; have f0 := kb.frozen 0
              have k1 := kb.cell 1; have f1 := kb.frozen 1
              have k2 := kb.cell 2; have f2 := kb.frozen 2
              have k3 := kb.cell 3; have f3 := kb.frozen 3
              simp at k0 k1 k2 k3
              refine ⟨undef, (((we.setCell ⟨wN.heap.size, 0, none⟩ (.int .i64 PG)).setCell ⟨wN.heap.size, 1, none⟩ (.slice Azr XS.length Czr)).setCell ⟨wN.heap.size, 2, none⟩ (.int .i64 NG)).setCell ⟨wN.heap.size, 3, none⟩ (.slice Bzr YS.length Dzr), ([.p wcz.heap.size wdz.heap.size (.slice Azr XS.length Czr) (.slice Bzr YS.length Dzr) XS YS], some (wN.heap.size, [.int .i64 PG, .slice Azr XS.length Czr, .int .i64 NG, .slice Bzr YS.length Dzr])), .inr ⟨by simp [go_sem, Act.put, k0, k1, k2, k3, f0, f1, f2, f3], rfl⟩, Lib.hid ((((he.out.put 0 _).put 1 _).put 2 _).put 3 _), ?_⟩
              clear he kb k0 k1 k2 k3 f0 f1 f2 f3
              refine wpAnyH_assign (i := 13) (d := some 11) _ rfl (by kernel_rfl) rfl rfl (by kernel_rfl) rfl ?_
              exact ⟨by kernel_rfl, ⟨vz0, vz1, vz2, Azr, Czr, Bzr, Dzr, wcz.heap.size, wdz.heap.size, wN.heap.size⟩, rfl, by kernel_rfl⟩
            · skip
              refine hOp_special (d := some 10) rfl rfl rfl (by kernel_rfl) fun wN hc => ⟨.pointer (some ⟨wN.heap.size, 0, none⟩), wN.alloc (.cells #[.int .i64 0, .slice none 0 0, .int .i64 0, .slice none 0 0] 50), ([.l waz2.heap.size wbz2.heap.size vz2 x3, .l waz1.heap.size wbz1.heap.size vz1 x1, .l waz0.heap.size wbz0.heap.size vz0 x0], some (wN.heap.size, [.int .i64 0, .slice none 0 0, .int .i64 0, .slice none 0 0])), by kernel_rfl, Lib.hid (hc.out.made [.int .i64 0, .slice none 0 0, .int .i64 0, .slice none 0 0] _), ?_⟩
              clear hc
              refine wpAnyH_call (i := 7) (d := some 43) 47 #[.agg #[.int .i64 p0, vz0], .agg #[.int .i64 p1, vz1], .int .i64 n2, vz2] rfl (by kernel_rfl) rfl rfl (by kernel_rfl) (fun _ => by kernel_rfl) fun wcz hc => ?_
              refine (((stmd_any p0 p1 n2 _ _ _ x0 x1 x3 wcz (Ints.of_own (hc.out.ls _ (.tail _ (.tail _ (.head _)))).1 (small20 s0)) (Ints.of_own (hc.out.ls _ (.tail _ (.head _))).1 (small20 s1)) (Ints.of_own (hc.out.ls _ (.head _)).1 (small20 s3)) IP0.out IP1.out IX0.out IX1.out).mono fun _ _ h => h.x)).mono ?_
              rintro e wdz ⟨vz, uz, rfl, oo, o2, oa, hb⟩
              try rw [HPG.out]
              try rw [HXS.out] at oo
              try rw [HNG.out]
              try rw [HYS.out]
              try rw [HBB.out]
              try rw [HYS.out] at o2
              obtain ⟨Azr, Czr, ef⟩ := Own.form oo
              obtain ⟨Bzr, Dzr, eg⟩ := Own.form o2
              subst ef eg
              refine ⟨_, rfl, ([.p wcz.heap.size wdz.heap.size (.slice Azr XS.length Czr) (.slice Bzr YS.length Dzr) XS YS], some (wN.heap.size, [.int .i64 0, .slice none 0 0, .int .i64 0, .slice none 0 0])), Lib.hid (((hc.out.sub (L' := []) (fun _ m => (by cases m))).add hb (Hl.mk2 oo o2 oa) (Nat.le_refl _))), ?_⟩
              clear hb oo o2 oa hc
              refine wpAnyH_take (i := 8) (d := some 35) (.tuple #[.agg #[.int .i64 PG, .slice Azr XS.length Czr, .int .i64 NG, .slice Bzr YS.length Dzr], .bool BB]) rfl (by kernel_rfl) rfl rfl (by kernel_rfl) (by kernel_rfl) (by kernel_rfl) (fun _ => by kernel_rfl) ?_
              refine wpAnyH_take (i := 9) (d := some 44) (.agg #[.int .i64 PG, .slice Azr XS.length Czr, .int .i64 NG, .slice Bzr YS.length Dzr]) rfl (by kernel_rfl) rfl rfl (by kernel_rfl) (by kernel_rfl) (by kernel_rfl) (fun _ => by kernel_rfl) ?_
              refine wpAnyH_take (i := 10) (d := some 45) (.bool BB) rfl (by kernel_rfl) rfl rfl (by kernel_rfl) (by kernel_rfl) (by kernel_rfl) (fun _ => by kernel_rfl) ?_
              refine wpAnyH_special (i := 12) (d := none) rfl (by kernel_rfl) rfl rfl (by kernel_rfl) fun we he => ?_
              have kb := (he.out.bx _ _ rfl).2.1
              have k0 := kb.cell 0; have f0 := kb.frozen 0
              have k1 := kb.cell 1; have f1 := kb.frozen 1
              have k2 := kb.cell 2; have f2 := kb.frozen 2
              have k3 := kb.cell 3; have f3 := kb.frozen 3
              simp at k0 k1 k2 k3
              refine ⟨undef, (((we.setCell ⟨wN.heap.size, 0, none⟩ (.int .i64 PG)).setCell ⟨wN.heap.size, 1, none⟩ (.slice Azr XS.length Czr)).setCell ⟨wN.heap.size, 2, none⟩ (.int .i64 NG)).setCell ⟨wN.heap.size, 3, none⟩ (.slice Bzr YS.length Dzr), ([.p wcz.heap.size wdz.heap.size (.slice Azr XS.length Czr) (.slice Bzr YS.length Dzr) XS YS], some (wN.heap.size, [.int .i64 PG, .slice Azr XS.length Czr, .int .i64 NG, .slice Bzr YS.length Dzr])), .inr ⟨by simp [go_sem, Act.put, k0, k1, k2, k3, f0, f1, f2, f3], rfl⟩, Lib.hid ((((he.out.put 0 _).put 1 _).put 2 _).put 3 _), ?_⟩
              clear he kb k0 k1 k2 k3 f0 f1 f2 f3
              refine wpAnyH_assign (i := 13) (d := some 11) _ rfl (by kernel_rfl) rfl rfl (by kernel_rfl) rfl ?_
              exact ⟨by kernel_rfl, ⟨vz0, vz1, vz2, Azr, Czr, Bzr, Dzr, wcz.heap.size, wdz.heap.size, wN.heap.size⟩, rfl, by kernel_rfl⟩
          · skip
            refine hOp_special (d := some 10) rfl rfl rfl (by kernel_rfl) fun wN hc => ⟨.pointer (some ⟨wN.heap.size, 0, none⟩), wN.alloc (.cells #[.int .i64 0, .slice none 0 0, .int .i64 0, .slice none 0 0] 50), ([.l waz1.heap.size wbz1.heap.size vz1 x1, .l waz0.heap.size wbz0.heap.size vz0 x0], some (wN.heap.size, [.int .i64 0, .slice none 0 0, .int .i64 0, .slice none 0 0])), by kernel_rfl, Lib.hid (hc.out.made [.int .i64 0, .slice none 0 0, .int .i64 0, .slice none 0 0] _), ?_⟩
            clear hc
            refine wpAnyH_call (i := 6) (d := some 42) 20 #[.slice a3 x3.length c3] rfl (by kernel_rfl) rfl rfl (by kernel_rfl) (fun _ => by kernel_rfl) fun waz2 hc => ?_
            refine (toI_any a3 c3 x3 waz2 (HA3.out.on (S3.out.on hc.out.be).be) s3).mono ?_
            rintro e wbz2 ⟨vz2, rfl, oo, hb⟩
            refine ⟨_, rfl, ([.l waz2.heap.size wbz2.heap.size vz2 x3, .l waz1.heap.size wbz1.heap.size vz1 x1, .l waz0.heap.size wbz0.heap.size vz0 x0], some (wN.heap.size, [.int .i64 0, .slice none 0 0, .int .i64 0, .slice none 0 0])), Lib.hid (hc.out.add hb (Hl.mk1 oo) (Nat.le_refl _)), ?_⟩
            clear oo hb hc
            refine wpAnyH_call (i := 7) (d := some 43) 47 #[.agg #[.int .i64 p0, vz0], .agg #[.int .i64 p1, vz1], .int .i64 n2, vz2] rfl (by kernel_rfl) rfl rfl (by kernel_rfl) (fun _ => by kernel_rfl) fun wcz hc => ?_
            refine (((stmd_any p0 p1 n2 _ _ _ x0 x1 x3 wcz (Ints.of_own (hc.out.ls _ (.tail _ (.tail _ (.head _)))).1 (small20 s0)) (Ints.of_own (hc.out.ls _ (.tail _ (.head _))).1 (small20 s1)) (Ints.of_own (hc.out.ls _ (.head _)).1 (small20 s3)) IP0.out IP1.out IX0.out IX1.out).mono fun _ _ h => h.x)).mono ?_
            rintro e wdz ⟨vz, uz, rfl, oo, o2, oa, hb⟩
            try rw [HPG.out]
            try rw [HXS.out] at oo
            try rw [HNG.out]
            try rw [HYS.out]
            try rw [HBB.out]
            try rw [HYS.out] at o2
            obtain ⟨Azr, Czr, ef⟩ := Own.form oo
            obtain ⟨Bzr, Dzr, eg⟩ := Own.form o2
            subst ef eg
            refine ⟨_, rfl, ([.p wcz.heap.size wdz.heap.size (.slice Azr XS.length Czr) (.slice Bzr YS.length Dzr) XS YS], some (wN.heap.size, [.int .i64 0, .slice none 0 0, .int .i64 0, .slice none 0 0])), Lib.hid (((hc.out.sub (L' := []) (fun _ m => (by cases m))).add hb (Hl.mk2 oo o2 oa) (Nat.le_refl _))), ?_⟩
            clear hb oo o2 oa hc
            refine wpAnyH_take (i := 8) (d := some 35) (.tuple #[.agg #[.int .i64 PG, .slice Azr XS.length Czr, .int .i64 NG, .slice Bzr YS.length Dzr], .bool BB]) rfl (by kernel_rfl) rfl rfl (by kernel_rfl) (by kernel_rfl) (by kernel_rfl) (fun _ => by kernel_rfl) ?_
            refine wpAnyH_take (i := 9) (d := some 44) (.agg #[.int .i64 PG, .slice Azr XS.length Czr, .int .i64 NG, .slice Bzr YS.length Dzr]) rfl (by kernel_rfl) rfl rfl (by kernel_rfl) (by kernel_rfl) (by kernel_rfl) (fun _ => by kernel_rfl) ?_
            refine wpAnyH_take (i := 10) (d := some 45) (.bool BB) rfl (by kernel_rfl) rfl rfl (by kernel_rfl) (by kernel_rfl) (by kernel_rfl) (fun _ => by kernel_rfl) ?_
            refine wpAnyH_special (i := 12) (d := none) rfl (by kernel_rfl) rfl rfl (by kernel_rfl) fun we he => ?_
            have kb := (he.out.bx _ _ rfl).2.1
            have k0 := kb.cell 0; have f0 := kb.frozen 0
            have k1 := kb.cell 1; have f1 := kb.frozen 1
            have k2 := kb.cell 2; have f2 := kb.frozen 2
            have k3 := kb.cell 3; have f3 := kb.frozen 3
            simp at k0 k1 k2 k3
            refine ⟨undef, (((we.setCell ⟨wN.heap.size, 0, none⟩ (.int .i64 PG)).setCell ⟨wN.heap.size, 1, none⟩ (.slice Azr XS.length Czr)).setCell ⟨wN.heap.size, 2, none⟩ (.int .i64 NG)).setCell ⟨wN.heap.size, 3, none⟩ (.slice Bzr YS.length Dzr), ([.p wcz.heap.size wdz.heap.size (.slice Azr XS.length Czr) (.slice Bzr YS.length Dzr) XS YS], some (wN.heap.size, [.int .i64 PG, .slice Azr XS.length Czr, .int .i64 NG, .slice Bzr YS.length Dzr])), .inr ⟨by simp [go_sem, Act.put, k0, k1, k2, k3, f0, f1, f2, f3], rfl⟩, Lib.hid ((((he.out.put 0 _).put 1 _).put 2 _).put 3 _), ?_⟩
            clear he kb k0 k1 k2 k3 f0 f1 f2 f3
            refine wpAnyH_assign (i := 13) (d := some 11) _ rfl (by kernel_rfl) rfl rfl (by kernel_rfl) rfl ?_
            exact ⟨by kernel_rfl, ⟨vz0, vz1, vz2, Azr, Czr, Bzr, Dzr, wcz.heap.size, wdz.heap.size, wN.heap.size⟩, rfl, by kernel_rfl⟩
        · skip
          refine hOp_special (d := some 10) rfl rfl rfl (by kernel_rfl) fun wN hc => ⟨.pointer (some ⟨wN.heap.size, 0, none⟩), wN.alloc (.cells #[.int .i64 0, .slice none 0 0, .int .i64 0, .slice none 0 0] 50), ([.l waz0.heap.size wbz0.heap.size vz0 x0], some (wN.heap.size, [.int .i64 0, .slice none 0 0, .int .i64 0, .slice none 0 0])), by kernel_rfl, Lib.hid (hc.out.made [.int .i64 0, .slice none 0 0, .int .i64 0, .slice none 0 0] _), ?_⟩
          clear hc
          refine wpAnyH_call (i := 3) (d := some 39) 16 #[.agg #[.int .i64 p1, .slice a1 x1.length c1]] rfl (by kernel_rfl) rfl rfl (by kernel_rfl) (fun _ => by kernel_rfl) fun waz1 hc => ?_
          refine (togr_any p1 a1 c1 x1 waz1 (HA1.out.on (S3.out.on hc.out.be).be) s1).mono ?_
          rintro e wbz1 ⟨vz1, rfl, oo, hb⟩
          refine ⟨_, rfl, ([.l waz1.heap.size wbz1.heap.size vz1 x1, .l waz0.heap.size wbz0.heap.size vz0 x0], some (wN.heap.size, [.int .i64 0, .slice none 0 0, .int .i64 0, .slice none 0 0])), Lib.hid (hc.out.add hb (Hl.mk1 oo) (Nat.le_refl _)), ?_⟩
          clear oo hb hc
          refine wpAnyH_call (i := 6) (d := some 42) 20 #[.slice a3 x3.length c3] rfl (by kernel_rfl) rfl rfl (by kernel_rfl) (fun _ => by kernel_rfl) fun waz2 hc => ?_
          refine (toI_any a3 c3 x3 waz2 (HA3.out.on (S3.out.on hc.out.be).be) s3).mono ?_
          rintro e wbz2 ⟨vz2, rfl, oo, hb⟩
          refine ⟨_, rfl, ([.l waz2.heap.size wbz2.heap.size vz2 x3, .l waz1.heap.size wbz1.heap.size vz1 x1, .l waz0.heap.size wbz0.heap.size vz0 x0], some (wN.heap.size, [.int .i64 0, .slice none 0 0, .int .i64 0, .slice none 0 0])), Lib.hid (hc.out.add hb (Hl.mk1 oo) (Nat.le_refl _)), ?_⟩
          clear oo hb hc
          refine wpAnyH_call (i := 7) (d := some 43) 47 #[.agg #[.int .i64 p0, vz0], .agg #[.int .i64 p1, vz1], .int .i64 n2, vz2] rfl (by kernel_rfl) rfl rfl (by kernel_rfl) (fun _ => by kernel_rfl) fun wcz hc => ?_
          refine (((stmd_any p0 p1 n2 _ _ _ x0 x1 x3 wcz (Ints.of_own (hc.out.ls _ (.tail _ (.tail _ (.head _)))).1 (small20 s0)) (Ints.of_own (hc.out.ls _ (.tail _ (.head _))).1 (small20 s1)) (Ints.of_own (hc.out.ls _ (.head _)).1 (small20 s3)) IP0.out IP1.out IX0.out IX1.out).mono fun _ _ h => h.x)).mono ?_
          rintro e wdz ⟨vz, uz, rfl, oo, o2, oa, hb⟩
          try rw [HPG.out]
          try rw [HXS.out] at oo
          try rw [HNG.out]
          try rw [HYS.out]
          try rw [HBB.out]
          try rw [HYS.out] at o2
          obtain ⟨Azr, Czr, ef⟩ := Own.form oo
          obtain ⟨Bzr, Dzr, eg⟩ := Own.form o2
          subst ef eg
          refine ⟨_, rfl, ([.p wcz.heap.size wdz.heap.size (.slice Azr XS.length Czr) (.slice Bzr YS.length Dzr) XS YS], some (wN.heap.size, [.int .i64 0, .slice none 0 0, .int .i64 0, .slice none 0 0])), Lib.hid (((hc.out.sub (L' := []) (fun _ m => (by cases m))).add hb (Hl.mk2 oo o2 oa) (Nat.le_refl _))), ?_⟩
          clear hb oo o2 oa hc
          refine wpAnyH_take (i := 8) (d := some 35) (.tuple #[.agg #[.int .i64 PG, .slice Azr XS.length Czr, .int .i64 NG, .slice Bzr YS.length Dzr], .bool BB]) rfl (by kernel_rfl) rfl rfl (by kernel_rfl) (by kernel_rfl) (by kernel_rfl) (fun _ => by kernel_rfl) ?_
          refine wpAnyH_take (i := 9) (d := some 44) (.agg #[.int .i64 PG, .slice Azr XS.length Czr, .int .i64 NG, .slice Bzr YS.length Dzr]) rfl (by kernel_rfl) rfl rfl (by kernel_rfl) (by kernel_rfl) (by kernel_rfl) (fun _ => by kernel_rfl) ?_
          refine wpAnyH_take (i := 10) (d := some 45) (.bool BB) rfl (by kernel_rfl) rfl rfl (by kernel_rfl) (by kernel_rfl) (by kernel_rfl) (fun _ => by kernel_rfl) ?_
          refine wpAnyH_special (i := 12) (d := none) rfl (by kernel_rfl) rfl rfl (by kernel_rfl) fun we he => ?_
          have kb := (he.out.bx _ _ rfl).2.1
          have k0 := kb.cell 0; have f0 := kb.frozen 0
          have k1 := kb.cell 1; have f1 := kb.frozen 1
          have k2 := kb.cell 2; have f2 := kb.frozen 2
          have k3 := kb.cell 3; have f3 := kb.frozen 3
          simp at k0 k1 k2 k3
          refine ⟨undef, (((we.setCell ⟨wN.heap.size, 0, none⟩ (.int .i64 PG)).setCell ⟨wN.heap.size, 1, none⟩ (.slice Azr XS.length Czr)).setCell ⟨wN.heap.size, 2, none⟩ (.int .i64 NG)).setCell ⟨wN.heap.size, 3, none⟩ (.slice Bzr YS.length Dzr), ([.p wcz.heap.size wdz.heap.size (.slice Azr XS.length Czr) (.slice Bzr YS.length Dzr) XS YS], some (wN.heap.size, [.int .i64 PG, .slice Azr XS.length Czr, .int .i64 NG, .slice Bzr YS.length Dzr])), .inr ⟨by simp [go_sem, Act.put, k0, k1, k2, k3, f0, f1, f2, f3], rfl⟩, Lib.hid ((((he.out.put 0 _).put 1 _).put 2 _).put 3 _), ?_⟩
          clear he kb k0 k1 k2 k3 f0 f1 f2 f3
          refine wpAnyH_assign (i := 13) (d := some 11) _ rfl (by kernel_rfl) rfl rfl (by kernel_rfl) rfl ?_
          exact ⟨by kernel_rfl, ⟨vz0, vz1, vz2, Azr, Czr, Bzr, Dzr, wcz.heap.size, wdz.heap.size, wN.heap.size⟩, rfl, by kernel_rfl⟩
      · skip
        refine hOp_special (d := some 10) rfl rfl rfl (by kernel_rfl) fun wN hc => ⟨.pointer (some ⟨wN.heap.size, 0, none⟩), wN.alloc (.cells #[.int .i64 0, .slice none 0 0, .int .i64 0, .slice none 0 0] 50), ([], some (wN.heap.size, [.int .i64 0, .slice none 0 0, .int .i64 0, .slice none 0 0])), by kernel_rfl, Lib.hid (hc.out.made [.int .i64 0, .slice none 0 0, .int .i64 0, .slice none 0 0] _), ?_⟩
        clear hc
        refine wpAnyH_call (i := 1) (d := some 37) 16 #[.agg #[.int .i64 p0, .slice a0 x0.length c0]] rfl (by kernel_rfl) rfl rfl (by kernel_rfl) (fun _ => by kernel_rfl) fun waz0 hc => ?_
        refine (togr_any p0 a0 c0 x0 waz0 (HA0.out.on (S3.out.on hc.out.be).be) s0).mono ?_
        rintro e wbz0 ⟨vz0, rfl, oo, hb⟩
        refine ⟨_, rfl, ([.l waz0.heap.size wbz0.heap.size vz0 x0], some (wN.heap.size, [.int .i64 0, .slice none 0 0, .int .i64 0, .slice none 0 0])), Lib.hid (hc.out.add hb (Hl.mk1 oo) (Nat.le_refl _)), ?_⟩
        clear oo hb hc
        refine wpAnyH_call (i := 3) (d := some 39) 16 #[.agg #[.int .i64 p1, .slice a1 x1.length c1]] rfl (by kernel_rfl) rfl rfl (by kernel_rfl) (fun _ => by kernel_rfl) fun waz1 hc => ?_
        refine (togr_any p1 a1 c1 x1 waz1 (HA1.out.on (S3.out.on hc.out.be).be) s1).mono ?_
        rintro e wbz1 ⟨vz1, rfl, oo, hb⟩
        refine ⟨_, rfl, ([.l waz1.heap.size wbz1.heap.size vz1 x1, .l waz0.heap.size wbz0.heap.size vz0 x0], some (wN.heap.size, [.int .i64 0, .slice none 0 0, .int .i64 0, .slice none 0 0])), Lib.hid (hc.out.add hb (Hl.mk1 oo) (Nat.le_refl _)), ?_⟩
        clear oo hb hc
        refine wpAnyH_call (i := 6) (d := some 42) 20 #[.slice a3 x3.length c3] rfl (by kernel_rfl) rfl rfl (by kernel_rfl) (fun _ => by kernel_rfl) fun waz2 hc => ?_
        refine (toI_any a3 c3 x3 waz2 (HA3.out.on (S3.out.on hc.out.be).be) s3).mono ?_
        rintro e wbz2 ⟨vz2, rfl, oo, hb⟩
        refine ⟨_, rfl, ([.l waz2.heap.size wbz2.heap.size vz2 x3, .l waz1.heap.size wbz1.heap.size vz1 x1, .l waz0.heap.size wbz0.heap.size vz0 x0], some (wN.heap.size, [.int .i64 0, .slice none 0 0, .int .i64 0, .slice none 0 0])), Lib.hid (hc.out.add hb (Hl.mk1 oo) (Nat.le_refl _)), ?_⟩
        clear oo hb hc
        refine wpAnyH_call (i := 7) (d := some 43) 47 #[.agg #[.int .i64 p0, vz0], .agg #[.int .i64 p1, vz1], .int .i64 n2, vz2] rfl (by kernel_rfl) rfl rfl (by kernel_rfl) (fun _ => by kernel_rfl) fun wcz hc => ?_
        refine (((stmd_any p0 p1 n2 _ _ _ x0 x1 x3 wcz (Ints.of_own (hc.out.ls _ (.tail _ (.tail _ (.head _)))).1 (small20 s0)) (Ints.of_own (hc.out.ls _ (.tail _ (.head _))).1 (small20 s1)) (Ints.of_own (hc.out.ls _ (.head _)).1 (small20 s3)) IP0.out IP1.out IX0.out IX1.out).mono fun _ _ h => h.x)).mono ?_
        rintro e wdz ⟨vz, uz, rfl, oo, o2, oa, hb⟩
        try rw [HPG.out]
        try rw [HXS.out] at oo
        try rw [HNG.out]
        try rw [HYS.out]
        try rw [HBB.out]
        try rw [HYS.out] at o2
        obtain ⟨Azr, Czr, ef⟩ := Own.form oo
        obtain ⟨Bzr, Dzr, eg⟩ := Own.form o2
        subst ef eg
        refine ⟨_, rfl, ([.p wcz.heap.size wdz.heap.size (.slice Azr XS.length Czr) (.slice Bzr YS.length Dzr) XS YS], some (wN.heap.size, [.int .i64 0, .slice none 0 0, .int .i64 0, .slice none 0 0])), Lib.hid (((hc.out.sub (L' := []) (fun _ m => (by cases m))).add hb (Hl.mk2 oo o2 oa) (Nat.le_refl _))), ?_⟩
        clear hb oo o2 oa hc
        refine wpAnyH_take (i := 8) (d := some 35) (.tuple #[.agg #[.int .i64 PG, .slice Azr XS.length Czr, .int .i64 NG, .slice Bzr YS.length Dzr], .bool BB]) rfl (by kernel_rfl) rfl rfl (by kernel_rfl) (by kernel_rfl) (by kernel_rfl) (fun _ => by kernel_rfl) ?_
        refine wpAnyH_take (i := 9) (d := some 44) (.agg #[.int .i64 PG, .slice Azr XS.length Czr, .int .i64 NG, .slice Bzr YS.length Dzr]) rfl (by kernel_rfl) rfl rfl (by kernel_rfl) (by kernel_rfl) (by kernel_rfl) (fun _ => by kernel_rfl) ?_
        refine wpAnyH_take (i := 10) (d := some 45) (.bool BB) rfl (by kernel_rfl) rfl rfl (by kernel_rfl) (by kernel_rfl) (by kernel_rfl) (fun _ => by kernel_rfl) ?_
        refine wpAnyH_special (i := 12) (d := none) rfl (by kernel_rfl) rfl rfl (by kernel_rfl) fun we he => ?_
        have kb := (he.out.bx _ _ rfl).2.1
        have k0 := kb.cell 0; have f0 := kb.frozen 0
        have k1 := kb.cell 1; have f1 := kb.frozen 1
        have k2 := kb.cell 2; have f2 := kb.frozen 2
        have k3 := kb.cell 3; have f3 := kb.frozen 3
        simp at k0 k1 k2 k3
        refine ⟨undef, (((we.setCell ⟨wN.heap.size, 0, none⟩ (.int .i64 PG)).setCell ⟨wN.heap.size, 1, none⟩ (.slice Azr XS.length Czr)).setCell ⟨wN.heap.size, 2, none⟩ (.int .i64 NG)).setCell ⟨wN.heap.size, 3, none⟩ (.slice Bzr YS.length Dzr), ([.p wcz.heap.size wdz.heap.size (.slice Azr XS.length Czr) (.slice Bzr YS.length Dzr) XS YS], some (wN.heap.size, [.int .i64 PG, .slice Azr XS.length Czr, .int .i64 NG, .slice Bzr YS.length Dzr])), .inr ⟨by simp [go_sem, Act.put, k0, k1, k2, k3, f0, f1, f2, f3], rfl⟩, Lib.hid ((((he.out.put 0 _).put 1 _).put 2 _).put 3 _), ?_⟩
        clear he kb k0 k1 k2 k3 f0 f1 f2 f3
        refine wpAnyH_assign (i := 13) (d := some 11) _ rfl (by kernel_rfl) rfl rfl (by kernel_rfl) rfl ?_
        exact ⟨by kernel_rfl, ⟨vz0, vz1, vz2, Azr, Czr, Bzr, Dzr, wcz.heap.size, wdz.heap.size, wN.heap.size⟩, rfl, by kernel_rfl⟩
    · skip
      rintro ⟨vz0, vz1, vz2, Azr, Czr, Bzr, Dzr, loz, hiz, Nz⟩ w4 hz
      dsimp only at hz ⊢
      simp only [Act.put, List.setIfInBounds_toArray, List.set_cons_zero, List.set_cons_succ]
      have S4 := Lib.hid (hz.out.fin S3.out)
      clear S3
      have Z4 : Hid (hiz ≤ w4.heap.size) := Lib.hid ((S4.out.ls _ (.head _)).size)
      have Z5 : Hid (Nz < w4.heap.size) := Lib.hid ((S4.out.bx _ (.head _)).lt)
      have Z6 : Hid (w3.heap.size ≤ w4.heap.size) := Lib.hid (hz.out.be.size)
      clear hz
      have qH0_0 := (S4.out.bx _ (.tail _ (.tail _ (.head _)))).cell 0
      have qH0_1 := (S4.out.bx _ (.tail _ (.tail _ (.head _)))).cell 1
      simp at qH0_0 qH0_1
      go_wp2_with fail
      refine (togr_any p0 a0 c0 x0 _ (HA0.out.on S4.out.be) s0).mono ?_
      rintro e w5 ⟨v9, rfl, oo, hb⟩
      clear qH0_0 qH0_1
      have S5 := Lib.hid (S4.out.on hb)
      clear S4
      have hz := hb.size
      obtain ⟨Ax0, Cx0, ef⟩ := Own.form oo
      subst ef
      have S6 := Lib.hid (S5.out.add (Hl.mk1 oo))
      clear S5
      have Z7 : Hid (w4.heap.size ≤ w5.heap.size) := Lib.hid (hz)
      clear hb oo hz
      obtain ⟨w6, hw6⟩ : ∃ z, z = w5.alloc (.cells #[.int .i64 p0, .slice Ax0 x0.length Cx0] 27) := ⟨_, rfl⟩
      have S7 : Hid (Sx w [(w5.heap.size, [.int .i64 p0, .slice Ax0 x0.length Cx0]), (Nz, [.int .i64 PG, .slice Azr XS.length Czr, .int .i64 NG, .slice Bzr YS.length Dzr]), (w.heap.size + 1, [.int .i64 p1, .slice a1 x1.length c1]), (w.heap.size, [.int .i64 p0, .slice a0 x0.length c0])] [.l w4.heap.size w5.heap.size (.slice Ax0 x0.length Cx0) x0, .p loz hiz (.slice Azr XS.length Czr) (.slice Bzr YS.length Dzr) XS YS] w6) := Lib.hid (by rw [hw6]; exact S6.out.made [.int .i64 p0, .slice Ax0 x0.length Cx0] _)
      clear S6
      have Z8 : Hid (w6.heap.size = w5.heap.size + 1) := Lib.hid (by rw [hw6]; simp)
      have Hw6 := Lib.hid hw6
      clear hw6
      have qH1_0 := (S7.out.bx _ (.tail _ (.tail _ (.head _)))).cell 0
      have qH1_1 := (S7.out.bx _ (.tail _ (.tail _ (.head _)))).cell 1
      simp at qH1_0 qH1_1
      rw [Hw6.out] at qH1_0 qH1_1
      go_wp2_with fail
      rw [← Hw6.out]
      refine (togr_any p1 a1 c1 x1 _ (HA1.out.on S7.out.be) s1).mono ?_
      rintro e w7 ⟨v9, rfl, oo, hb⟩
      clear qH1_0 qH1_1
      have S8 := Lib.hid (S7.out.on hb)
      clear S7
      have hz := hb.size
      obtain ⟨Ax1, Cx1, ef⟩ := Own.form oo
      subst ef
      have S9 := Lib.hid (S8.out.add (Hl.mk1 oo))
      clear S8
      have Z9 : Hid (w6.heap.size ≤ w7.heap.size) := Lib.hid (hz)
      clear hb oo hz
      obtain ⟨w8, hw8⟩ : ∃ z, z = w7.alloc (.cells #[.int .i64 p1, .slice Ax1 x1.length Cx1] 27) := ⟨_, rfl⟩
      have S10 : Hid (Sx w [(w7.heap.size, [.int .i64 p1, .slice Ax1 x1.length Cx1]), (w5.heap.size, [.int .i64 p0, .slice Ax0 x0.length Cx0]), (Nz, [.int .i64 PG, .slice Azr XS.length Czr, .int .i64 NG, .slice Bzr YS.length Dzr]), (w.heap.size + 1, [.int .i64 p1, .slice a1 x1.length c1]), (w.heap.size, [.int .i64 p0, .slice a0 x0.length c0])] [.l w6.heap.size w7.heap.size (.slice Ax1 x1.length Cx1) x1, .l w4.heap.size w5.heap.size (.slice Ax0 x0.length Cx0) x0, .p loz hiz (.slice Azr XS.length Czr) (.slice Bzr YS.length Dzr) XS YS] w8) := Lib.hid (by rw [hw8]; exact S9.out.made [.int .i64 p1, .slice Ax1 x1.length Cx1] _)
      clear S9
      have Z10 : Hid (w8.heap.size = w7.heap.size + 1) := Lib.hid (by rw [hw8]; simp)
      have Hw8 := Lib.hid hw8
      clear hw8
      go_wp2_with fail
      rw [← Hw8.out]
      refine (toI_any a3 c3 x3 _ (HA3.out.on S10.out.be) s3).mono ?_
      rintro e w9 ⟨v9, rfl, oo, hb⟩
      have S11 := Lib.hid (S10.out.on hb)
      clear S10
      have hz := hb.size
      obtain ⟨Ax3, Cx3, ef⟩ := Own.form oo
      subst ef
      have S12 := Lib.hid (S11.out.add (Hl.mk1 oo))
      clear S11
      have Z11 : Hid (w8.heap.size ≤ w9.heap.size) := Lib.hid (hz)
      clear hb oo hz
      have qx0_0 := (S12.out.bx _ (.tail _ (.head _))).cell 0
      have qx0_1 := (S12.out.bx _ (.tail _ (.head _))).cell 1
      have qx1_0 := (S12.out.bx _ (.head _)).cell 0
      have qx1_1 := (S12.out.bx _ (.head _)).cell 1
      simp at qx0_0 qx0_1 qx1_0 qx1_1
      go_wp2_with fail
      refine (((imd_any p0 p1 n2 _ _ _ x0 x1 x3 _ (Ints.of_own (S12.out.ls _ (.tail _ (.tail _ (.head _)))).1 (small20 s0)) (Ints.of_own (S12.out.ls _ (.tail _ (.head _))).1 (small20 s1)) (Ints.of_own (S12.out.ls _ (.head _)).1 (small20 s3)) (S12.out.ls _ (.head _)).1.capped IX0.out IX1.out).mono fun _ _ h => h.x)).mono ?_
      rintro e w10 ⟨v9, u9, rfl, oo, o2, oa, hb⟩
      clear qx0_0 qx0_1 qx1_0 qx1_1
      try rw [HPG.out]
      try rw [HXS.out] at oo
      try rw [HNG.out]
      try rw [HYS.out]
      try rw [HBB.out]
      try rw [HYS.out] at o2
      have S13 := Lib.hid (S12.out.on hb)
      clear S12
      have hz := hb.size
      obtain ⟨Agr, Cgr, ef⟩ := Own.form oo
      obtain ⟨Bgr, Dgr, eg⟩ := Own.form o2
      subst ef eg
      have S14 := Lib.hid (S13.out.add (Hl.mk2 oo o2 oa))
      clear S13
      clear oo o2 oa
      have Z12 : Hid (w9.heap.size ≤ w10.heap.size) := Lib.hid (hz)
      clear hb hz
      obtain ⟨w11, hw11⟩ : ∃ z, z = w10.alloc (.cells #[.int .i64 PG, .slice Agr XS.length Cgr, .int .i64 NG, .slice Bgr YS.length Dgr] 50) := ⟨_, rfl⟩
      have S15 : Hid (Sx w [(w10.heap.size, [.int .i64 PG, .slice Agr XS.length Cgr, .int .i64 NG, .slice Bgr YS.length Dgr]), (w7.heap.size, [.int .i64 p1, .slice Ax1 x1.length Cx1]), (w5.heap.size, [.int .i64 p0, .slice Ax0 x0.length Cx0]), (Nz, [.int .i64 PG, .slice Azr XS.length Czr, .int .i64 NG, .slice Bzr YS.length Dzr]), (w.heap.size + 1, [.int .i64 p1, .slice a1 x1.length c1]), (w.heap.size, [.int .i64 p0, .slice a0 x0.length c0])] [.p w9.heap.size w10.heap.size (.slice Agr XS.length Cgr) (.slice Bgr YS.length Dgr) XS YS, .l w8.heap.size w9.heap.size (.slice Ax3 x3.length Cx3) x3, .l w6.heap.size w7.heap.size (.slice Ax1 x1.length Cx1) x1, .l w4.heap.size w5.heap.size (.slice Ax0 x0.length Cx0) x0, .p loz hiz (.slice Azr XS.length Czr) (.slice Bzr YS.length Dzr) XS YS] w11) := Lib.hid (by rw [hw11]; exact S14.out.made [.int .i64 PG, .slice Agr XS.length Cgr, .int .i64 NG, .slice Bgr YS.length Dgr] _)
      clear S14
      have Z13 : Hid (w11.heap.size = w10.heap.size + 1) := Lib.hid (by rw [hw11]; simp)
      have Hw11 := Lib.hid hw11
      clear hw11
      have hbb : (BB != BB) = false := by simp
      have qgr_0 := (S15.out.bx _ (.head _)).cell 0
      have qgr_1 := (S15.out.bx _ (.head _)).cell 1
      have qgr_2 := (S15.out.bx _ (.head _)).cell 2
      have qgr_3 := (S15.out.bx _ (.head _)).cell 3
      have qzr_0 := (S15.out.bx _ (.tail _ (.tail _ (.tail _ (.head _))))).cell 0
      have qzr_1 := (S15.out.bx _ (.tail _ (.tail _ (.tail _ (.head _))))).cell 1
      have qzr_2 := (S15.out.bx _ (.tail _ (.tail _ (.tail _ (.head _))))).cell 2
      have qzr_3 := (S15.out.bx _ (.tail _ (.tail _ (.tail _ (.head _))))).cell 3
      simp at qgr_0 qgr_1 qgr_2 qgr_3 qzr_0 qzr_1 qzr_2 qzr_3
      rw [Hw11.out] at qgr_0 qgr_1 qgr_2 qgr_3 qzr_0 qzr_1 qzr_2 qzr_3
      go_wp2_with fail
      rw [← Hw11.out]
      refine (eqtr_any PG NG _ _ _ _ XS YS _ (Ints.of_own (S15.out.ls _ (.head _)).1 HXL.out) (Ints.of_own (S15.out.ls _ (.tail _ (.tail _ (.tail _ (.tail _ (.head _)))))).1 HXL.out) (Ints.of_own (S15.out.ls _ (.head _)).2.1 HYL.out) (Ints.of_own (S15.out.ls _ (.tail _ (.tail _ (.tail _ (.tail _ (.head _)))))).2.1 HYL.out)).mono ?_
      rintro e w12 ⟨rfl, hb⟩
      clear qgr_0 qgr_1 qgr_2 qgr_3 qzr_0 qzr_1 qzr_2 qzr_3
      have S16 := Lib.hid (S15.out.on hb)
      clear S15
      have Z14 : Hid (w11.heap.size ≤ w12.heap.size) := Lib.hid (hb.size)
      clear hb
      go_wp2_with fail
      apply wp_region_H (Z := List Cp × Option (Nat × List Value)) (S := fun k => k == 2 || k == 3 || k == 4) (C := fun z w' => Hid (Zx w12 z.1 z.2 w')) [0, 1] ([], none)
      · kernel_rfl
      · kernel_rfl
      · kernel_rfl
      · exact ⟨rfl, rfl, trivial⟩
      · rfl
      · decide
      · exact Lib.hid (Zx.start (Below.refl _ _).drew)
      · intro z
        dsimp only [pickL, nthO]
        go_big_quiet_want
        go_big_quiet_op
        refine ⟨.agg #[.int .i64 p0, .slice Ax0 x0.length Cx0], fun w' hw' => ?_, ?_⟩
        · have q9 := (S16.out.on hw'.out.be).bx _ (.tail _ (.tail _ (.head _)))
          have q0 := q9.cell 0
          have q1 := q9.cell 1
          simp at q0 q1
          simp [go_sem, q0, q1]
        go_big_quiet_on
        go_big_quiet_want
        go_big_quiet_op
        refine ⟨.agg #[.int .i64 p0, .slice a0 x0.length c0], fun w' hw' => ?_, ?_⟩
        · have q9 := (S16.out.on hw'.out.be).bx _ (.tail _ (.tail _ (.tail _ (.tail _ (.tail _ (.head _))))))
          have q0 := q9.cell 0
          have q1 := q9.cell 1
          simp at q0 q1
          simp [go_sem, q0, q1]
        go_big_quiet_on
        exact wpQuiet_nil rfl
      · skip
        refine wpAnyH_call (i := 2) (d := some 71) 16 #[.agg #[.int .i64 p0, .slice a0 x0.length c0]] rfl (by kernel_rfl) rfl rfl (by kernel_rfl) (fun _ => by kernel_rfl) fun wae0 hc => ?_
        refine (togr_any p0 a0 c0 x0 wae0 (HA0.out.on (S16.out.on hc.out.be).be) s0).mono ?_
        rintro e wbe0 ⟨ve0, rfl, oo, hb⟩
        refine ⟨_, rfl, ([.l wae0.heap.size wbe0.heap.size ve0 x0], none), Lib.hid (hc.out.add hb (Hl.mk1 oo) (Nat.le_refl _)), ?_⟩
        clear oo hb hc
        refine wpAnyH_call (i := 3) (d := some 72) 18 #[.agg #[.int .i64 p0, .slice Ax0 x0.length Cx0], .agg #[.int .i64 p0, ve0]] rfl (by kernel_rfl) rfl rfl (by kernel_rfl) (fun _ => by kernel_rfl) fun wc hc => ?_
        refine (eqgr_any p0 _ _ x0 wc (Ints.of_own ((Lib.hid (S16.out.on hc.out.be)).out.ls _ (.tail _ (.tail _ (.tail _ (.head _))))).1 (small20 s0)) (Ints.of_own (hc.out.ls _ (.head _)).1 (small20 s0))).mono ?_
        rintro e wd ⟨rfl, hb⟩
        refine ⟨_, rfl, ([], none), Lib.hid ((hc.out.on hb).sub (fun _ m => (by cases m))), ?_⟩
        clear hb hc
        refine wpAnyH_special (i := 4) (d := some 73) rfl (by kernel_rfl) rfl rfl (by kernel_rfl) fun wy hcy => ⟨.bool false, wy, ([], none), .inl (by kernel_rfl), hcy, ?_⟩
        refine ⟨by kernel_rfl, fun w13 hz => ?_⟩
        simp only [Act.put, List.setIfInBounds_toArray, List.set_cons_zero, List.set_cons_succ]
        have S17 := Lib.hid (S16.out.on hz.out.be)
        clear S16
        have Z15 : Hid (w12.heap.size ≤ w13.heap.size) := Lib.hid (hz.out.be.size)
        clear hz hcy
        go_wp2_with fail
        apply wp_region_H (Z := List Cp × Option (Nat × List Value)) (S := fun k => k == 2 || k == 3 || k == 4) (C := fun z w' => Hid (Zx w13 z.1 z.2 w')) [0, 1] ([], none)
        · kernel_rfl
        · kernel_rfl
        · kernel_rfl
        · exact ⟨rfl, rfl, trivial⟩
        · rfl
        · decide
        · exact Lib.hid (Zx.start (Below.refl _ _).drew)
        · intro z
          dsimp only [pickL, nthO]
          go_big_quiet_want
          go_big_quiet_op
          refine ⟨.agg #[.int .i64 p1, .slice Ax1 x1.length Cx1], fun w' hw' => ?_, ?_⟩
          · have q9 := (S17.out.on hw'.out.be).bx _ (.tail _ (.head _))
            have q0 := q9.cell 0
            have q1 := q9.cell 1
            simp at q0 q1
            simp [go_sem, q0, q1]
          go_big_quiet_on
          go_big_quiet_want
          go_big_quiet_op
          refine ⟨.agg #[.int .i64 p1, .slice a1 x1.length c1], fun w' hw' => ?_, ?_⟩
          · have q9 := (S17.out.on hw'.out.be).bx _ (.tail _ (.tail _ (.tail _ (.tail _ (.head _)))))
            have q0 := q9.cell 0
            have q1 := q9.cell 1
            simp at q0 q1
            simp [go_sem, q0, q1]
          go_big_quiet_on
          exact wpQuiet_nil rfl
        · skip
          refine wpAnyH_call (i := 2) (d := some 76) 16 #[.agg #[.int .i64 p1, .slice a1 x1.length c1]] rfl (by kernel_rfl) rfl rfl (by kernel_rfl) (fun _ => by kernel_rfl) fun wae0 hc => ?_
          refine (togr_any p1 a1 c1 x1 wae0 (HA1.out.on (S17.out.on hc.out.be).be) s1).mono ?_
          rintro e wbe0 ⟨ve0, rfl, oo, hb⟩
          refine ⟨_, rfl, ([.l wae0.heap.size wbe0.heap.size ve0 x1], none), Lib.hid (hc.out.add hb (Hl.mk1 oo) (Nat.le_refl _)), ?_⟩
          clear oo hb hc
          refine wpAnyH_call (i := 3) (d := some 77) 18 #[.agg #[.int .i64 p1, .slice Ax1 x1.length Cx1], .agg #[.int .i64 p1, ve0]] rfl (by kernel_rfl) rfl rfl (by kernel_rfl) (fun _ => by kernel_rfl) fun wc hc => ?_
          refine (eqgr_any p1 _ _ x1 wc (Ints.of_own ((Lib.hid (S17.out.on hc.out.be)).out.ls _ (.tail _ (.tail _ (.head _)))).1 (small20 s1)) (Ints.of_own (hc.out.ls _ (.head _)).1 (small20 s1))).mono ?_
          rintro e wd ⟨rfl, hb⟩
          refine ⟨_, rfl, ([], none), Lib.hid ((hc.out.on hb).sub (fun _ m => (by cases m))), ?_⟩
          clear hb hc
          refine wpAnyH_special (i := 4) (d := some 78) rfl (by kernel_rfl) rfl rfl (by kernel_rfl) fun wy hcy => ⟨.bool false, wy, ([], none), .inl (by kernel_rfl), hcy, ?_⟩
          refine ⟨by kernel_rfl, fun w14 hz => ?_⟩
          simp only [Act.put, List.setIfInBounds_toArray, List.set_cons_zero, List.set_cons_succ]
          have S18 := Lib.hid (S17.out.on hz.out.be)
          clear S17
          have Z16 : Hid (w13.heap.size ≤ w14.heap.size) := Lib.hid (hz.out.be.size)
          clear hz hcy
          go_wp2_with fail
          refine (toI_any a3 c3 x3 _ (HA3.out.on S18.out.be) s3).mono ?_
          rintro e w15 ⟨v9, rfl, oo, hb⟩
          have I9 := Lib.hid (Ints.of_own oo (small20 s3))
          have S19 := Lib.hid (S18.out.on hb)
          clear S18
          have Z17 : Hid (w14.heap.size ≤ w15.heap.size) := Lib.hid (hb.size)
          clear hb oo
          go_wp2_with fail
          refine (eqI_any _ v9 x3 _ (Ints.of_own (S19.out.ls _ (.tail _ (.head _))).1 (small20 s3)) I9.out).mono ?_
          rintro e w16 ⟨rfl, hb⟩
          have S20 := Lib.hid (S19.out.on hb)
          clear S19
          have Z18 : Hid (w15.heap.size ≤ w16.heap.size) := Lib.hid (hb.size)
          clear hb I9
          have qx0_0 := (S20.out.bx _ (.tail _ (.tail _ (.head _)))).cell 0
          have qx0_1 := (S20.out.bx _ (.tail _ (.tail _ (.head _)))).cell 1
          simp at qx0_0 qx0_1
          go_wp2_with fail
          refine (mkgr_any p0 w4.heap.size w5.heap.size _ x0 1 _ (S20.out.ls _ (.tail _ (.tail _ (.tail _ (.head _))))) (by omega) (by omega) (by omega)).mono ?_
          rintro e w17 ⟨rfl, hh, ho⟩
          clear qx0_0 qx0_1
          have S21 := Lib.hid (Sx.markAt (L1 := [.p w9.heap.size w10.heap.size (.slice Agr XS.length Cgr) (.slice Bgr YS.length Dgr) XS YS, .l w8.heap.size w9.heap.size (.slice Ax3 x3.length Cx3) x3, .l w6.heap.size w7.heap.size (.slice Ax1 x1.length Cx1) x1]) (L2 := [.p loz hiz (.slice Azr XS.length Czr) (.slice Bzr YS.length Dzr) XS YS]) (c := .l w4.heap.size w5.heap.size (.slice Ax0 x0.length Cx0) x0) (c' := .l w4.heap.size w5.heap.size (.slice Ax0 x0.length Cx0) (markTo x0 1 x0.length)) S20.out ho hh (by have := Z1.out; have := Z2.out; have := Z3.out; have := Z4.out; have := Z5.out; have := Z6.out; have := Z7.out; have := Z8.out; have := Z9.out; have := Z10.out; have := Z11.out; have := Z12.out; have := Z13.out; have := Z14.out; have := Z15.out; have := Z16.out; have := Z17.out; have := Z18.out; omega) (by have := Z1.out; have := Z2.out; have := Z3.out; have := Z4.out; have := Z5.out; have := Z6.out; have := Z7.out; have := Z8.out; have := Z9.out; have := Z10.out; have := Z11.out; have := Z12.out; have := Z13.out; have := Z14.out; have := Z15.out; have := Z16.out; have := Z17.out; have := Z18.out; omega) (all_cons (by show w10.heap.size < w4.heap.size ∨ w5.heap.size ≤ w10.heap.size; have := Z1.out; have := Z2.out; have := Z3.out; have := Z4.out; have := Z5.out; have := Z6.out; have := Z7.out; have := Z8.out; have := Z9.out; have := Z10.out; have := Z11.out; have := Z12.out; have := Z13.out; have := Z14.out; have := Z15.out; have := Z16.out; have := Z17.out; have := Z18.out; omega) (all_cons (by show w7.heap.size < w4.heap.size ∨ w5.heap.size ≤ w7.heap.size; have := Z1.out; have := Z2.out; have := Z3.out; have := Z4.out; have := Z5.out; have := Z6.out; have := Z7.out; have := Z8.out; have := Z9.out; have := Z10.out; have := Z11.out; have := Z12.out; have := Z13.out; have := Z14.out; have := Z15.out; have := Z16.out; have := Z17.out; have := Z18.out; omega) (all_cons (by show w5.heap.size < w4.heap.size ∨ w5.heap.size ≤ w5.heap.size; have := Z1.out; have := Z2.out; have := Z3.out; have := Z4.out; have := Z5.out; have := Z6.out; have := Z7.out; have := Z8.out; have := Z9.out; have := Z10.out; have := Z11.out; have := Z12.out; have := Z13.out; have := Z14.out; have := Z15.out; have := Z16.out; have := Z17.out; have := Z18.out; omega) (all_cons (by show Nz < w4.heap.size ∨ w5.heap.size ≤ Nz; have := Z1.out; have := Z2.out; have := Z3.out; have := Z4.out; have := Z5.out; have := Z6.out; have := Z7.out; have := Z8.out; have := Z9.out; have := Z10.out; have := Z11.out; have := Z12.out; have := Z13.out; have := Z14.out; have := Z15.out; have := Z16.out; have := Z17.out; have := Z18.out; omega) (all_cons (by show w.heap.size + 1 < w4.heap.size ∨ w5.heap.size ≤ w.heap.size + 1; have := Z1.out; have := Z2.out; have := Z3.out; have := Z4.out; have := Z5.out; have := Z6.out; have := Z7.out; have := Z8.out; have := Z9.out; have := Z10.out; have := Z11.out; have := Z12.out; have := Z13.out; have := Z14.out; have := Z15.out; have := Z16.out; have := Z17.out; have := Z18.out; omega) (all_cons (by show w.heap.size < w4.heap.size ∨ w5.heap.size ≤ w.heap.size; have := Z1.out; have := Z2.out; have := Z3.out; have := Z4.out; have := Z5.out; have := Z6.out; have := Z7.out; have := Z8.out; have := Z9.out; have := Z10.out; have := Z11.out; have := Z12.out; have := Z13.out; have := Z14.out; have := Z15.out; have := Z16.out; have := Z17.out; have := Z18.out; omega) all_nil)))))) (all_cons (by show w10.heap.size ≤ w4.heap.size ∨ w5.heap.size ≤ w9.heap.size; have := Z1.out; have := Z2.out; have := Z3.out; have := Z4.out; have := Z5.out; have := Z6.out; have := Z7.out; have := Z8.out; have := Z9.out; have := Z10.out; have := Z11.out; have := Z12.out; have := Z13.out; have := Z14.out; have := Z15.out; have := Z16.out; have := Z17.out; have := Z18.out; omega) (all_cons (by show w9.heap.size ≤ w4.heap.size ∨ w5.heap.size ≤ w8.heap.size; have := Z1.out; have := Z2.out; have := Z3.out; have := Z4.out; have := Z5.out; have := Z6.out; have := Z7.out; have := Z8.out; have := Z9.out; have := Z10.out; have := Z11.out; have := Z12.out; have := Z13.out; have := Z14.out; have := Z15.out; have := Z16.out; have := Z17.out; have := Z18.out; omega) (all_cons (by show w7.heap.size ≤ w4.heap.size ∨ w5.heap.size ≤ w6.heap.size; have := Z1.out; have := Z2.out; have := Z3.out; have := Z4.out; have := Z5.out; have := Z6.out; have := Z7.out; have := Z8.out; have := Z9.out; have := Z10.out; have := Z11.out; have := Z12.out; have := Z13.out; have := Z14.out; have := Z15.out; have := Z16.out; have := Z17.out; have := Z18.out; omega) (all_cons (by show hiz ≤ w4.heap.size ∨ w5.heap.size ≤ loz; have := Z1.out; have := Z2.out; have := Z3.out; have := Z4.out; have := Z5.out; have := Z6.out; have := Z7.out; have := Z8.out; have := Z9.out; have := Z10.out; have := Z11.out; have := Z12.out; have := Z13.out; have := Z14.out; have := Z15.out; have := Z16.out; have := Z17.out; have := Z18.out; omega) all_nil)))))
          clear S20
          have Z19 : Hid (w16.heap.size ≤ w17.heap.size) := Lib.hid (ho.size)
          clear hh ho
          obtain ⟨K1, hK⟩ : ∃ K : Int, 1 + (x0.length : Int) = K := ⟨_, rfl⟩
          have K1a : 0 ≤ K1 := by omega
          have K1b : K1 ≤ 3000000 := by omega
          rw [hK]
          have HK_1 := Lib.hid hK
          clear hK
          have qx1_0 := (S21.out.bx _ (.tail _ (.head _))).cell 0
          have qx1_1 := (S21.out.bx _ (.tail _ (.head _))).cell 1
          simp at qx1_0 qx1_1
          go_wp2_with fail
          refine (mkgr_any p1 w6.heap.size w7.heap.size _ x1 K1 _ (S21.out.ls _ (.tail _ (.tail _ (.head _)))) (by omega) (by omega) (by omega)).mono ?_
          rintro e w18 ⟨rfl, hh, ho⟩
          clear qx1_0 qx1_1
          have S22 := Lib.hid (Sx.markAt (L1 := [.p w9.heap.size w10.heap.size (.slice Agr XS.length Cgr) (.slice Bgr YS.length Dgr) XS YS, .l w8.heap.size w9.heap.size (.slice Ax3 x3.length Cx3) x3]) (L2 := [.l w4.heap.size w5.heap.size (.slice Ax0 x0.length Cx0) (markTo x0 1 x0.length), .p loz hiz (.slice Azr XS.length Czr) (.slice Bzr YS.length Dzr) XS YS]) (c := .l w6.heap.size w7.heap.size (.slice Ax1 x1.length Cx1) x1) (c' := .l w6.heap.size w7.heap.size (.slice Ax1 x1.length Cx1) (markTo x1 K1 x1.length)) S21.out ho hh (by have := Z1.out; have := Z2.out; have := Z3.out; have := Z4.out; have := Z5.out; have := Z6.out; have := Z7.out; have := Z8.out; have := Z9.out; have := Z10.out; have := Z11.out; have := Z12.out; have := Z13.out; have := Z14.out; have := Z15.out; have := Z16.out; have := Z17.out; have := Z18.out; have := Z19.out; omega) (by have := Z1.out; have := Z2.out; have := Z3.out; have := Z4.out; have := Z5.out; have := Z6.out; have := Z7.out; have := Z8.out; have := Z9.out; have := Z10.out; have := Z11.out; have := Z12.out; have := Z13.out; have := Z14.out; have := Z15.out; have := Z16.out; have := Z17.out; have := Z18.out; have := Z19.out; omega) (all_cons (by show w10.heap.size < w6.heap.size ∨ w7.heap.size ≤ w10.heap.size; have := Z1.out; have := Z2.out; have := Z3.out; have := Z4.out; have := Z5.out; have := Z6.out; have := Z7.out; have := Z8.out; have := Z9.out; have := Z10.out; have := Z11.out; have := Z12.out; have := Z13.out; have := Z14.out; have := Z15.out; have := Z16.out; have := Z17.out; have := Z18.out; have := Z19.out; omega) (all_cons (by show w7.heap.size < w6.heap.size ∨ w7.heap.size ≤ w7.heap.size; have := Z1.out; have := Z2.out; have := Z3.out; have := Z4.out; have := Z5.out; have := Z6.out; have := Z7.out; have := Z8.out; have := Z9.out; have := Z10.out; have := Z11.out; have := Z12.out; have := Z13.out; have := Z14.out; have := Z15.out; have := Z16.out; have := Z17.out; have := Z18.out; have := Z19.out; omega) (all_cons (by show w5.heap.size < w6.heap.size ∨ w7.heap.size ≤ w5.heap.size; have := Z1.out; have := Z2.out; have := Z3.out; have := Z4.out; have := Z5.out; have := Z6.out; have := Z7.out; have := Z8.out; have := Z9.out; have := Z10.out; have := Z11.out; have := Z12.out; have := Z13.out; have := Z14.out; have := Z15.out; have := Z16.out; have := Z17.out; have := Z18.out; have := Z19.out; omega) (all_cons (by show Nz < w6.heap.size ∨ w7.heap.size ≤ Nz; have := Z1.out; have := Z2.out; have := Z3.out; have := Z4.out; have := Z5.out; have := Z6.out; have := Z7.out; have := Z8.out; have := Z9.out; have := Z10.out; have := Z11.out; have := Z12.out; have := Z13.out; have := Z14.out; have := Z15.out; have := Z16.out; have := Z17.out; have := Z18.out; have := Z19.out; omega) (all_cons (by show w.heap.size + 1 < w6.heap.size ∨ w7.heap.size ≤ w.heap.size + 1; have := Z1.out; have := Z2.out; have := Z3.out; have := Z4.out; have := Z5.out; have := Z6.out; have := Z7.out; have := Z8.out; have := Z9.out; have := Z10.out; have := Z11.out; have := Z12.out; have := Z13.out; have := Z14.out; have := Z15.out; have := Z16.out; have := Z17.out; have := Z18.out; have := Z19.out; omega) (all_cons (by show w.heap.size < w6.heap.size ∨ w7.heap.size ≤ w.heap.size; have := Z1.out; have := Z2.out; have := Z3.out; have := Z4.out; have := Z5.out; have := Z6.out; have := Z7.out; have := Z8.out; have := Z9.out; have := Z10.out; have := Z11.out; have := Z12.out; have := Z13.out; have := Z14.out; have := Z15.out; have := Z16.out; have := Z17.out; have := Z18.out; have := Z19.out; omega) all_nil)))))) (all_cons (by show w10.heap.size ≤ w6.heap.size ∨ w7.heap.size ≤ w9.heap.size; have := Z1.out; have := Z2.out; have := Z3.out; have := Z4.out; have := Z5.out; have := Z6.out; have := Z7.out; have := Z8.out; have := Z9.out; have := Z10.out; have := Z11.out; have := Z12.out; have := Z13.out; have := Z14.out; have := Z15.out; have := Z16.out; have := Z17.out; have := Z18.out; have := Z19.out; omega) (all_cons (by show w9.heap.size ≤ w6.heap.size ∨ w7.heap.size ≤ w8.heap.size; have := Z1.out; have := Z2.out; have := Z3.out; have := Z4.out; have := Z5.out; have := Z6.out; have := Z7.out; have := Z8.out; have := Z9.out; have := Z10.out; have := Z11.out; have := Z12.out; have := Z13.out; have := Z14.out; have := Z15.out; have := Z16.out; have := Z17.out; have := Z18.out; have := Z19.out; omega) (all_cons (by show w5.heap.size ≤ w6.heap.size ∨ w7.heap.size ≤ w4.heap.size; have := Z1.out; have := Z2.out; have := Z3.out; have := Z4.out; have := Z5.out; have := Z6.out; have := Z7.out; have := Z8.out; have := Z9.out; have := Z10.out; have := Z11.out; have := Z12.out; have := Z13.out; have := Z14.out; have := Z15.out; have := Z16.out; have := Z17.out; have := Z18.out; have := Z19.out; omega) (all_cons (by show hiz ≤ w6.heap.size ∨ w7.heap.size ≤ loz; have := Z1.out; have := Z2.out; have := Z3.out; have := Z4.out; have := Z5.out; have := Z6.out; have := Z7.out; have := Z8.out; have := Z9.out; have := Z10.out; have := Z11.out; have := Z12.out; have := Z13.out; have := Z14.out; have := Z15.out; have := Z16.out; have := Z17.out; have := Z18.out; have := Z19.out; omega) all_nil)))))
          clear S21
          have Z20 : Hid (w17.heap.size ≤ w18.heap.size) := Lib.hid (ho.size)
          clear hh ho
          obtain ⟨K2, hK⟩ : ∃ K : Int, K1 + (x1.length : Int) = K := ⟨_, rfl⟩
          have K2a : 0 ≤ K2 := by omega
          have K2b : K2 ≤ 6000000 := by omega
          rw [hK]
          have HK_2 := Lib.hid hK
          clear hK
          go_wp2_with fail
          refine (mkI_any w8.heap.size w9.heap.size _ x3 K2 _ (S22.out.ls _ (.tail _ (.head _))) (by omega) (by omega) (by omega)).mono ?_
          rintro e w19 ⟨rfl, hh, ho⟩
          have S23 := Lib.hid (Sx.markAt (L1 := [.p w9.heap.size w10.heap.size (.slice Agr XS.length Cgr) (.slice Bgr YS.length Dgr) XS YS]) (L2 := [.l w6.heap.size w7.heap.size (.slice Ax1 x1.length Cx1) (markTo x1 K1 x1.length), .l w4.heap.size w5.heap.size (.slice Ax0 x0.length Cx0) (markTo x0 1 x0.length), .p loz hiz (.slice Azr XS.length Czr) (.slice Bzr YS.length Dzr) XS YS]) (c := .l w8.heap.size w9.heap.size (.slice Ax3 x3.length Cx3) x3) (c' := .l w8.heap.size w9.heap.size (.slice Ax3 x3.length Cx3) (markTo x3 K2 x3.length)) S22.out ho hh (by have := Z1.out; have := Z2.out; have := Z3.out; have := Z4.out; have := Z5.out; have := Z6.out; have := Z7.out; have := Z8.out; have := Z9.out; have := Z10.out; have := Z11.out; have := Z12.out; have := Z13.out; have := Z14.out; have := Z15.out; have := Z16.out; have := Z17.out; have := Z18.out; have := Z19.out; have := Z20.out; omega) (by have := Z1.out; have := Z2.out; have := Z3.out; have := Z4.out; have := Z5.out; have := Z6.out; have := Z7.out; have := Z8.out; have := Z9.out; have := Z10.out; have := Z11.out; have := Z12.out; have := Z13.out; have := Z14.out; have := Z15.out; have := Z16.out; have := Z17.out; have := Z18.out; have := Z19.out; have := Z20.out; omega) (all_cons (by show w10.heap.size < w8.heap.size ∨ w9.heap.size ≤ w10.heap.size; have := Z1.out; have := Z2.out; have := Z3.out; have := Z4.out; have := Z5.out; have := Z6.out; have := Z7.out; have := Z8.out; have := Z9.out; have := Z10.out; have := Z11.out; have := Z12.out; have := Z13.out; have := Z14.out; have := Z15.out; have := Z16.out; have := Z17.out; have := Z18.out; have := Z19.out; have := Z20.out; omega) (all_cons (by show w7.heap.size < w8.heap.size ∨ w9.heap.size ≤ w7.heap.size; have := Z1.out; have := Z2.out; have := Z3.out; have := Z4.out; have := Z5.out; have := Z6.out; have := Z7.out; have := Z8.out; have := Z9.out; have := Z10.out; have := Z11.out; have := Z12.out; have := Z13.out; have := Z14.out; have := Z15.out; have := Z16.out; have := Z17.out; have := Z18.out; have := Z19.out; have := Z20.out; omega) (all_cons (by show w5.heap.size < w8.heap.size ∨ w9.heap.size ≤ w5.heap.size; have := Z1.out; have := Z2.out; have := Z3.out; have := Z4.out; have := Z5.out; have := Z6.out; have := Z7.out; have := Z8.out; have := Z9.out; have := Z10.out; have := Z11.out; have := Z12.out; have := Z13.out; have := Z14.out; have := Z15.out; have := Z16.out; have := Z17.out; have := Z18.out; have := Z19.out; have := Z20.out; omega) (all_cons (by show Nz < w8.heap.size ∨ w9.heap.size ≤ Nz; have := Z1.out; have := Z2.out; have := Z3.out; have := Z4.out; have := Z5.out; have := Z6.out; have := Z7.out; have := Z8.out; have := Z9.out; have := Z10.out; have := Z11.out; have := Z12.out; have := Z13.out; have := Z14.out; have := Z15.out; have := Z16.out; have := Z17.out; have := Z18.out; have := Z19.out; have := Z20.out; omega) (all_cons (by show w.heap.size + 1 < w8.heap.size ∨ w9.heap.size ≤ w.heap.size + 1; have := Z1.out; have := Z2.out; have := Z3.out; have := Z4.out; have := Z5.out; have := Z6.out; have := Z7.out; have := Z8.out; have := Z9.out; have := Z10.out; have := Z11.out; have := Z12.out; have := Z13.out; have := Z14.out; have := Z15.out; have := Z16.out; have := Z17.out; have := Z18.out; have := Z19.out; have := Z20.out; omega) (all_cons (by show w.heap.size < w8.heap.size ∨ w9.heap.size ≤ w.heap.size; have := Z1.out; have := Z2.out; have := Z3.out; have := Z4.out; have := Z5.out; have := Z6.out; have := Z7.out; have := Z8.out; have := Z9.out; have := Z10.out; have := Z11.out; have := Z12.out; have := Z13.out; have := Z14.out; have := Z15.out; have := Z16.out; have := Z17.out; have := Z18.out; have := Z19.out; have := Z20.out; omega) all_nil)))))) (all_cons (by show w10.heap.size ≤ w8.heap.size ∨ w9.heap.size ≤ w9.heap.size; have := Z1.out; have := Z2.out; have := Z3.out; have := Z4.out; have := Z5.out; have := Z6.out; have := Z7.out; have := Z8.out; have := Z9.out; have := Z10.out; have := Z11.out; have := Z12.out; have := Z13.out; have := Z14.out; have := Z15.out; have := Z16.out; have := Z17.out; have := Z18.out; have := Z19.out; have := Z20.out; omega) (all_cons (by show w7.heap.size ≤ w8.heap.size ∨ w9.heap.size ≤ w6.heap.size; have := Z1.out; have := Z2.out; have := Z3.out; have := Z4.out; have := Z5.out; have := Z6.out; have := Z7.out; have := Z8.out; have := Z9.out; have := Z10.out; have := Z11.out; have := Z12.out; have := Z13.out; have := Z14.out; have := Z15.out; have := Z16.out; have := Z17.out; have := Z18.out; have := Z19.out; have := Z20.out; omega) (all_cons (by show w5.heap.size ≤ w8.heap.size ∨ w9.heap.size ≤ w4.heap.size; have := Z1.out; have := Z2.out; have := Z3.out; have := Z4.out; have := Z5.out; have := Z6.out; have := Z7.out; have := Z8.out; have := Z9.out; have := Z10.out; have := Z11.out; have := Z12.out; have := Z13.out; have := Z14.out; have := Z15.out; have := Z16.out; have := Z17.out; have := Z18.out; have := Z19.out; have := Z20.out; omega) (all_cons (by show hiz ≤ w8.heap.size ∨ w9.heap.size ≤ loz; have := Z1.out; have := Z2.out; have := Z3.out; have := Z4.out; have := Z5.out; have := Z6.out; have := Z7.out; have := Z8.out; have := Z9.out; have := Z10.out; have := Z11.out; have := Z12.out; have := Z13.out; have := Z14.out; have := Z15.out; have := Z16.out; have := Z17.out; have := Z18.out; have := Z19.out; have := Z20.out; omega) all_nil)))))
          clear S22
          have Z21 : Hid (w18.heap.size ≤ w19.heap.size) := Lib.hid (ho.size)
          clear hh ho
          obtain ⟨K3, hK⟩ : ∃ K : Int, K2 + (x3.length : Int) = K := ⟨_, rfl⟩
          have K3a : 0 ≤ K3 := by omega
          have K3b : K3 ≤ 9000000 := by omega
          rw [hK]
          have HK_3 := Lib.hid hK
          clear hK
          have hk0 : ¬ K3 < 0 := by omega
          have hkd : decide (K3 < 0) = false := by simp; omega
          have qgr_0 := (S23.out.bx _ (.head _)).cell 0
          have qgr_1 := (S23.out.bx _ (.head _)).cell 1
          have qgr_2 := (S23.out.bx _ (.head _)).cell 2
          have qgr_3 := (S23.out.bx _ (.head _)).cell 3
          have qzr_0 := (S23.out.bx _ (.tail _ (.tail _ (.tail _ (.head _))))).cell 0
          have qzr_1 := (S23.out.bx _ (.tail _ (.tail _ (.tail _ (.head _))))).cell 1
          have qzr_2 := (S23.out.bx _ (.tail _ (.tail _ (.tail _ (.head _))))).cell 2
          have qzr_3 := (S23.out.bx _ (.tail _ (.tail _ (.tail _ (.head _))))).cell 3
          simp at qgr_0 qgr_1 qgr_2 qgr_3 qzr_0 qzr_1 qzr_2 qzr_3
          go_wp2_with fail
          refine (eqtr_any PG NG _ _ _ _ XS YS _ (Ints.of_own (S23.out.ls _ (.head _)).1 HXL.out) (Ints.of_own (S23.out.ls _ (.tail _ (.tail _ (.tail _ (.tail _ (.head _)))))).1 HXL.out) (Ints.of_own (S23.out.ls _ (.head _)).2.1 HYL.out) (Ints.of_own (S23.out.ls _ (.tail _ (.tail _ (.tail _ (.tail _ (.head _)))))).2.1 HYL.out)).mono ?_
          rintro e w20 ⟨rfl, hb⟩
          clear qgr_0 qgr_1 qgr_2 qgr_3 qzr_0 qzr_1 qzr_2 qzr_3
          have S24 := Lib.hid (S23.out.on hb)
          clear S23
          have Z22 : Hid (w19.heap.size ≤ w20.heap.size) := Lib.hid (hb.size)
          clear hb
          have hxm := HXM.out
          have hym := HYM.out
          have qgr_0 := (S24.out.bx _ (.head _)).cell 0
          have qgr_1 := (S24.out.bx _ (.head _)).cell 1
          have qgr_2 := (S24.out.bx _ (.head _)).cell 2
          have qgr_3 := (S24.out.bx _ (.head _)).cell 3
          simp at qgr_0 qgr_1 qgr_2 qgr_3
          go_wp2_with fail
          refine (mktr_any PG NG w9.heap.size w10.heap.size _ _ XS YS 1 _ (S24.out.ls _ (.head _)) (by omega) (by omega) (by omega) (by omega)).mono ?_
          rintro e w21 ⟨rfl, hh, ho⟩
          clear qgr_0 qgr_1 qgr_2 qgr_3
          have S25 := Lib.hid (Sx.markAt (L1 := []) (L2 := [.l w8.heap.size w9.heap.size (.slice Ax3 x3.length Cx3) (markTo x3 K2 x3.length), .l w6.heap.size w7.heap.size (.slice Ax1 x1.length Cx1) (markTo x1 K1 x1.length), .l w4.heap.size w5.heap.size (.slice Ax0 x0.length Cx0) (markTo x0 1 x0.length), .p loz hiz (.slice Azr XS.length Czr) (.slice Bzr YS.length Dzr) XS YS]) (c := .p w9.heap.size w10.heap.size (.slice Agr XS.length Cgr) (.slice Bgr YS.length Dgr) XS YS) (c' := .p w9.heap.size w10.heap.size (.slice Agr XS.length Cgr) (.slice Bgr YS.length Dgr) (markTo XS 1 XS.length) (markTo YS (1 + (XS.length : Int)) YS.length)) S24.out ho hh (by have := Z1.out; have := Z2.out; have := Z3.out; have := Z4.out; have := Z5.out; have := Z6.out; have := Z7.out; have := Z8.out; have := Z9.out; have := Z10.out; have := Z11.out; have := Z12.out; have := Z13.out; have := Z14.out; have := Z15.out; have := Z16.out; have := Z17.out; have := Z18.out; have := Z19.out; have := Z20.out; have := Z21.out; have := Z22.out; omega) (by have := Z1.out; have := Z2.out; have := Z3.out; have := Z4.out; have := Z5.out; have := Z6.out; have := Z7.out; have := Z8.out; have := Z9.out; have := Z10.out; have := Z11.out; have := Z12.out; have := Z13.out; have := Z14.out; have := Z15.out; have := Z16.out; have := Z17.out; have := Z18.out; have := Z19.out; have := Z20.out; have := Z21.out; have := Z22.out; omega) (all_cons (by show w10.heap.size < w9.heap.size ∨ w10.heap.size ≤ w10.heap.size; have := Z1.out; have := Z2.out; have := Z3.out; have := Z4.out; have := Z5.out; have := Z6.out; have := Z7.out; have := Z8.out; have := Z9.out; have := Z10.out; have := Z11.out; have := Z12.out; have := Z13.out; have := Z14.out; have := Z15.out; have := Z16.out; have := Z17.out; have := Z18.out; have := Z19.out; have := Z20.out; have := Z21.out; have := Z22.out; omega) (all_cons (by show w7.heap.size < w9.heap.size ∨ w10.heap.size ≤ w7.heap.size; have := Z1.out; have := Z2.out; have := Z3.out; have := Z4.out; have := Z5.out; have := Z6.out; have := Z7.out; have := Z8.out; have := Z9.out; have := Z10.out; have := Z11.out; have := Z12.out; have := Z13.out; have := Z14.out; have := Z15.out; have := Z16.out; have := Z17.out; have := Z18.out; have := Z19.out; have := Z20.out; have := Z21.out; have := Z22.out; omega) (all_cons (by show w5.heap.size < w9.heap.size ∨ w10.heap.size ≤ w5.heap.size; have := Z1.out; have := Z2.out; have := Z3.out; have := Z4.out; have := Z5.out; have := Z6.out; have := Z7.out; have := Z8.out; have := Z9.out; have := Z10.out; have := Z11.out; have := Z12.out; have := Z13.out; have := Z14.out; have := Z15.out; have := Z16.out; have := Z17.out; have := Z18.out; have := Z19.out; have := Z20.out; have := Z21.out; have := Z22.out; omega) (all_cons (by show Nz < w9.heap.size ∨ w10.heap.size ≤ Nz; have := Z1.out; have := Z2.out; have := Z3.out; have := Z4.out; have := Z5.out; have := Z6.out; have := Z7.out; have := Z8.out; have := Z9.out; have := Z10.out; have := Z11.out; have := Z12.out; have := Z13.out; have := Z14.out; have := Z15.out; have := Z16.out; have := Z17.out; have := Z18.out; have := Z19.out; have := Z20.out; have := Z21.out; have := Z22.out; omega) (all_cons (by show w.heap.size + 1 < w9.heap.size ∨ w10.heap.size ≤ w.heap.size + 1; have := Z1.out; have := Z2.out; have := Z3.out; have := Z4.out; have := Z5.out; have := Z6.out; have := Z7.out; have := Z8.out; have := Z9.out; have := Z10.out; have := Z11.out; have := Z12.out; have := Z13.out; have := Z14.out; have := Z15.out; have := Z16.out; have := Z17.out; have := Z18.out; have := Z19.out; have := Z20.out; have := Z21.out; have := Z22.out; omega) (all_cons (by show w.heap.size < w9.heap.size ∨ w10.heap.size ≤ w.heap.size; have := Z1.out; have := Z2.out; have := Z3.out; have := Z4.out; have := Z5.out; have := Z6.out; have := Z7.out; have := Z8.out; have := Z9.out; have := Z10.out; have := Z11.out; have := Z12.out; have := Z13.out; have := Z14.out; have := Z15.out; have := Z16.out; have := Z17.out; have := Z18.out; have := Z19.out; have := Z20.out; have := Z21.out; have := Z22.out; omega) all_nil)))))) (all_cons (by show w9.heap.size ≤ w9.heap.size ∨ w10.heap.size ≤ w8.heap.size; have := Z1.out; have := Z2.out; have := Z3.out; have := Z4.out; have := Z5.out; have := Z6.out; have := Z7.out; have := Z8.out; have := Z9.out; have := Z10.out; have := Z11.out; have := Z12.out; have := Z13.out; have := Z14.out; have := Z15.out; have := Z16.out; have := Z17.out; have := Z18.out; have := Z19.out; have := Z20.out; have := Z21.out; have := Z22.out; omega) (all_cons (by show w7.heap.size ≤ w9.heap.size ∨ w10.heap.size ≤ w6.heap.size; have := Z1.out; have := Z2.out; have := Z3.out; have := Z4.out; have := Z5.out; have := Z6.out; have := Z7.out; have := Z8.out; have := Z9.out; have := Z10.out; have := Z11.out; have := Z12.out; have := Z13.out; have := Z14.out; have := Z15.out; have := Z16.out; have := Z17.out; have := Z18.out; have := Z19.out; have := Z20.out; have := Z21.out; have := Z22.out; omega) (all_cons (by show w5.heap.size ≤ w9.heap.size ∨ w10.heap.size ≤ w4.heap.size; have := Z1.out; have := Z2.out; have := Z3.out; have := Z4.out; have := Z5.out; have := Z6.out; have := Z7.out; have := Z8.out; have := Z9.out; have := Z10.out; have := Z11.out; have := Z12.out; have := Z13.out; have := Z14.out; have := Z15.out; have := Z16.out; have := Z17.out; have := Z18.out; have := Z19.out; have := Z20.out; have := Z21.out; have := Z22.out; omega) (all_cons (by show hiz ≤ w9.heap.size ∨ w10.heap.size ≤ loz; have := Z1.out; have := Z2.out; have := Z3.out; have := Z4.out; have := Z5.out; have := Z6.out; have := Z7.out; have := Z8.out; have := Z9.out; have := Z10.out; have := Z11.out; have := Z12.out; have := Z13.out; have := Z14.out; have := Z15.out; have := Z16.out; have := Z17.out; have := Z18.out; have := Z19.out; have := Z20.out; have := Z21.out; have := Z22.out; omega) all_nil)))))
          clear S24
          have Z23 : Hid (w20.heap.size ≤ w21.heap.size) := Lib.hid (ho.size)
          clear hh ho
          obtain ⟨K4, hK⟩ : ∃ K : Int, 1 + (XS.length : Int) + (YS.length : Int) = K := ⟨_, rfl⟩
          have K4a : 0 ≤ K4 := by omega
          have K4b : K4 ≤ 12000000 := by omega
          rw [hK]
          have HK_4 := Lib.hid hK
          clear hK
          have hm0 : ¬ K4 < 0 := by omega
          have hmn : (K4 != K4) = false := by simp
          have qgr_0 := (S25.out.bx _ (.head _)).cell 0
          have qgr_1 := (S25.out.bx _ (.head _)).cell 1
          have qgr_2 := (S25.out.bx _ (.head _)).cell 2
          have qgr_3 := (S25.out.bx _ (.head _)).cell 3
          simp at qgr_0 qgr_1 qgr_2 qgr_3
          go_wp2_with fail
          refine (hdtr_any PG NG _ _ XS YS 1 _ (Ints.of_own (S25.out.ls _ (.head _)).1 (by rw [markTo_len]; exact HXL.out)) (Ints.of_own (S25.out.ls _ (.head _)).2.1 (by rw [markTo_len]; exact HYL.out)) (by omega) (by omega) (by omega) (by omega)).mono ?_
          rintro e w22 ⟨rfl, hb⟩
          rw [HK_4.out]
          clear qgr_0 qgr_1 qgr_2 qgr_3
          have S26 := Lib.hid (S25.out.on hb)
          clear S25
          have Z24 : Hid (w21.heap.size ≤ w22.heap.size) := Lib.hid (hb.size)
          clear hb
          go_wp2_with fail
          apply wp_region_H (Z := List Cp × Option (Nat × List Value)) (S := fun k => k == 1 || k == 3 || k == 6 || k == 7 || k == 11 || k == 12) (C := fun z w' => Hid (Zx w22 z.1 z.2 w')) [0, 2, 4, 5] ([], none)
          · kernel_rfl
          · kernel_rfl
          · kernel_rfl
          · exact ⟨rfl, rfl, rfl, rfl, trivial⟩
          · rfl
          · decide
          · exact Lib.hid (Zx.start (Below.refl _ _).drew)
          · intro z
            dsimp only [pickL, nthO]
            go_big_quiet_want
            go_big_quiet_op
            refine ⟨.agg #[.int .i64 p0, .slice a0 x0.length c0], fun w' hw' => ?_, ?_⟩
            · have q9 := (S26.out.on hw'.out.be).bx _ (.tail _ (.tail _ (.tail _ (.tail _ (.tail _ (.head _))))))
              have q0 := q9.cell 0
              have q1 := q9.cell 1
              simp at q0 q1
              simp [go_sem, q0, q1]
            go_big_quiet_on
            go_big_quiet_want
            go_big_quiet_op
            refine ⟨.agg #[.int .i64 p1, .slice a1 x1.length c1], fun w' hw' => ?_, ?_⟩
            · have q9 := (S26.out.on hw'.out.be).bx _ (.tail _ (.tail _ (.tail _ (.tail _ (.head _)))))
              have q0 := q9.cell 0
              have q1 := q9.cell 1
              simp at q0 q1
              simp [go_sem, q0, q1]
            go_big_quiet_on
            go_big_quiet_want; go_big_quiet_op; first | go_big_quiet_on | (refine ⟨_, fun _ _ => rfl, ?_⟩; go_big_quiet_on)
            go_big_quiet_want; go_big_quiet_op; first | go_big_quiet_on | (refine ⟨_, fun _ _ => rfl, ?_⟩; go_big_quiet_on)
            exact wpQuiet_nil rfl
          · skip
            refine wpAnyH_key (D := Value × Value × Value × Option Addr × Nat × Option Addr × Nat × Nat × Nat × Nat) (fun d => ([.p d.2.2.2.2.2.2.2.1 d.2.2.2.2.2.2.2.2.1 (.slice d.2.2.2.1 XS.length d.2.2.2.2.1) (.slice d.2.2.2.2.2.1 YS.length d.2.2.2.2.2.2.1) XS YS], some (d.2.2.2.2.2.2.2.2.2, [.int .i64 PG, .slice d.2.2.2.1 XS.length d.2.2.2.2.1, .int .i64 NG, .slice d.2.2.2.2.2.1 YS.length d.2.2.2.2.2.2.1]))) (fun d a => (((((((((a.put (some 119) (.agg #[.int .i64 p0, d.1])).put (some 121) (.agg #[.int .i64 p1, d.2.1])).put (some 124) (d.2.2.1)).put (some 125) (.tuple #[.agg #[.int .i64 PG, .slice d.2.2.2.1 XS.length d.2.2.2.2.1, .int .i64 NG, .slice d.2.2.2.2.2.1 YS.length d.2.2.2.2.2.2.1], .bool BB])).put (some 117) (.tuple #[.agg #[.int .i64 PG, .slice d.2.2.2.1 XS.length d.2.2.2.2.1, .int .i64 NG, .slice d.2.2.2.2.2.1 YS.length d.2.2.2.2.2.2.1], .bool BB])).put (some 126) (.agg #[.int .i64 PG, .slice d.2.2.2.1 XS.length d.2.2.2.2.1, .int .i64 NG, .slice d.2.2.2.2.2.1 YS.length d.2.2.2.2.2.2.1])).put (some 127) (.bool BB)).put (some 20) (.pointer (some ⟨d.2.2.2.2.2.2.2.2.2, 0, none⟩))).put (some 21) (.bool BB))) ?_ ?_
            · skip
              refine wpAnyH_two 1 11 (by kernel_rfl) ?_ ?_
              · skip
                refine hOp_call 16 #[.agg #[.int .i64 p0, .slice a0 x0.length c0]] (d := some 119) rfl rfl rfl (by kernel_rfl) (fun _ => by kernel_rfl) fun way0 hc => ?_
                refine (togr_any p0 a0 c0 x0 way0 (HA0.out.on (S26.out.on hc.out.be).be) s0).mono ?_
                rintro e wby0 ⟨vy0, rfl, oo, hb⟩
                refine ⟨_, rfl, ([.l way0.heap.size wby0.heap.size vy0 x0], none), Lib.hid (hc.out.add hb (Hl.mk1 oo) (Nat.le_refl _)), ?_⟩
                clear oo hb hc
                refine wpAnyH_two 3 11 (by kernel_rfl) ?_ ?_
                · skip
                  refine hOp_call 16 #[.agg #[.int .i64 p1, .slice a1 x1.length c1]] (d := some 121) rfl rfl rfl (by kernel_rfl) (fun _ => by kernel_rfl) fun way1 hc => ?_
                  refine (togr_any p1 a1 c1 x1 way1 (HA1.out.on (S26.out.on hc.out.be).be) s1).mono ?_
                  rintro e wby1 ⟨vy1, rfl, oo, hb⟩
                  refine ⟨_, rfl, ([.l way1.heap.size wby1.heap.size vy1 x1, .l way0.heap.size wby0.heap.size vy0 x0], none), Lib.hid (hc.out.add hb (Hl.mk1 oo) (Nat.le_refl _)), ?_⟩
                  clear oo hb hc
                  refine wpAnyH_two 6 11 (by kernel_rfl) ?_ ?_
                  · skip
                    refine hOp_call 20 #[.slice a3 x3.length c3] (d := some 124) rfl rfl rfl (by kernel_rfl) (fun _ => by kernel_rfl) fun way2 hc => ?_
                    refine (toI_any a3 c3 x3 way2 (HA3.out.on (S26.out.on hc.out.be).be) s3).mono ?_
                    rintro e wby2 ⟨vy2, rfl, oo, hb⟩
                    refine ⟨_, rfl, ([.l way2.heap.size wby2.heap.size vy2 x3, .l way1.heap.size wby1.heap.size vy1 x1, .l way0.heap.size wby0.heap.size vy0 x0], none), Lib.hid (hc.out.add hb (Hl.mk1 oo) (Nat.le_refl _)), ?_⟩
                    clear oo hb hc
                    refine wpAnyH_two 7 11 (by kernel_rfl) ?_ ?_
                    · skip
                      refine hOp_call 48 #[.agg #[.int .i64 p0, vy0], .agg #[.int .i64 p1, vy1], .int .i64 n2, vy2] (d := some 125) rfl rfl rfl (by kernel_rfl) (fun _ => by kernel_rfl) fun wcy hc => ?_
                      refine (((imd_any p0 p1 n2 _ _ _ x0 x1 x3 wcy (Ints.of_own (hc.out.ls _ (.tail _ (.tail _ (.head _)))).1 (small20 s0)) (Ints.of_own (hc.out.ls _ (.tail _ (.head _))).1 (small20 s1)) (Ints.of_own (hc.out.ls _ (.head _)).1 (small20 s3)) (hc.out.ls _ (.head _)).1.capped IX0.out IX1.out).mono fun _ _ h => h.x)).mono ?_
                      rintro e wdy ⟨vy, uy, rfl, oo, o2, oa, hb⟩
                      try rw [HPG.out]
                      try rw [HXS.out] at oo
                      try rw [HNG.out]
                      try rw [HYS.out]
                      try rw [HBB.out]
                      try rw [HYS.out] at o2
                      obtain ⟨Ayr, Cyr, ef⟩ := Own.form oo
                      obtain ⟨Byr, Dyr, eg⟩ := Own.form o2
                      subst ef eg
                      refine ⟨_, rfl, ([.p wcy.heap.size wdy.heap.size (.slice Ayr XS.length Cyr) (.slice Byr YS.length Dyr) XS YS], none), Lib.hid (((hc.out.sub (L' := []) (fun _ m => (by cases m))).add hb (Hl.mk2 oo o2 oa) (Nat.le_refl _))), ?_⟩
                      clear hb oo o2 oa hc
                      refine wpAnyH_take (i := 8) (d := some 117) (.tuple #[.agg #[.int .i64 PG, .slice Ayr XS.length Cyr, .int .i64 NG, .slice Byr YS.length Dyr], .bool BB]) rfl (by kernel_rfl) rfl rfl (by kernel_rfl) (by kernel_rfl) (by kernel_rfl) (fun _ => by kernel_rfl) ?_
                      refine wpAnyH_take (i := 9) (d := some 126) (.agg #[.int .i64 PG, .slice Ayr XS.length Cyr, .int .i64 NG, .slice Byr YS.length Dyr]) rfl (by kernel_rfl) rfl rfl (by kernel_rfl) (by kernel_rfl) (by kernel_rfl) (fun _ => by kernel_rfl) ?_
                      refine wpAnyH_take (i := 10) (d := some 127) (.bool BB) rfl (by kernel_rfl) rfl rfl (by kernel_rfl) (by kernel_rfl) (by kernel_rfl) (fun _ => by kernel_rfl) ?_
                      refine wpAnyH_special (i := 11) (d := some 20) rfl (by kernel_rfl) rfl rfl (by kernel_rfl) fun wN hc => ⟨.pointer (some ⟨wN.heap.size, 0, none⟩), wN.alloc (.cells #[.int .i64 0, .slice none 0 0, .int .i64 0, .slice none 0 0] 50), ([.p wcy.heap.size wdy.heap.size (.slice Ayr XS.length Cyr) (.slice Byr YS.length Dyr) XS YS], some (wN.heap.size, [.int .i64 0, .slice none 0 0, .int .i64 0, .slice none 0 0])), .inl (by kernel_rfl), Lib.hid (hc.out.made [.int .i64 0, .slice none 0 0, .int .i64 0, .slice none 0 0] _), ?_⟩
                      clear hc
                      refine wpAnyH_special (i := 12) (d := none) rfl (by kernel_rfl) rfl rfl (by kernel_rfl) fun we he => ?_
                      have kb := (he.out.bx _ _ rfl).2.1
                      have k0 := kb.cell 0; have f0 := kb.frozen 0
                      have k1 := kb.cell 1; have f1 := kb.frozen 1
                      have k2 := kb.cell 2; have f2 := kb.frozen 2
                      have k3 := kb.cell 3; have f3 := kb.frozen 3
                      simp at k0 k1 k2 k3
                      refine ⟨undef, (((we.setCell ⟨wN.heap.size, 0, none⟩ (.int .i64 PG)).setCell ⟨wN.heap.size, 1, none⟩ (.slice Ayr XS.length Cyr)).setCell ⟨wN.heap.size, 2, none⟩ (.int .i64 NG)).setCell ⟨wN.heap.size, 3, none⟩ (.slice Byr YS.length Dyr), ([.p wcy.heap.size wdy.heap.size (.slice Ayr XS.length Cyr) (.slice Byr YS.length Dyr) XS YS], some (wN.heap.size, [.int .i64 PG, .slice Ayr XS.length Cyr, .int .i64 NG, .slice Byr YS.length Dyr])), .inr ⟨by simp [go_sem, Act.put, k0, k1, k2, k3, f0, f1, f2, f3], rfl⟩, Lib.hid ((((he.out.put 0 _).put 1 _).put 2 _).put 3 _), ?_⟩
                      clear he kb k0 k1 k2 k3 f0 f1 f2 f3
                      refine wpAnyH_assign (i := 13) (d := some 21) _ rfl (by kernel_rfl) rfl rfl (by kernel_rfl) rfl ?_
                      exact ⟨by kernel_rfl, ⟨vy0, vy1, vy2, Ayr, Cyr, Byr, Dyr, wcy.heap.size, wdy.heap.size, wN.heap.size⟩, rfl, by kernel_rfl⟩
                    · skip
                      refine hOp_special (d := some 20) rfl rfl rfl (by kernel_rfl) fun wN hc => ⟨.pointer (some ⟨wN.heap.size, 0, none⟩), wN.alloc (.cells #[.int .i64 0, .slice none 0 0, .int .i64 0, .slice none 0 0] 50), ([.l way2.heap.size wby2.heap.size vy2 x3, .l way1.heap.size wby1.heap.size vy1 x1, .l way0.heap.size wby0.heap.size vy0 x0], some (wN.heap.size, [.int .i64 0, .slice none 0 0, .int .i64 0, .slice none 0 0])), by kernel_rfl, Lib.hid (hc.out.made [.int .i64 0, .slice none 0 0, .int .i64 0, .slice none 0 0] _), ?_⟩
                      clear hc
                      refine wpAnyH_call (i := 7) (d := some 125) 48 #[.agg #[.int .i64 p0, vy0], .agg #[.int .i64 p1, vy1], .int .i64 n2, vy2] rfl (by kernel_rfl) rfl rfl (by kernel_rfl) (fun _ => by kernel_rfl) fun wcy hc => ?_
                      refine (((imd_any p0 p1 n2 _ _ _ x0 x1 x3 wcy (Ints.of_own (hc.out.ls _ (.tail _ (.tail _ (.head _)))).1 (small20 s0)) (Ints.of_own (hc.out.ls _ (.tail _ (.head _))).1 (small20 s1)) (Ints.of_own (hc.out.ls _ (.head _)).1 (small20 s3)) (hc.out.ls _ (.head _)).1.capped IX0.out IX1.out).mono fun _ _ h => h.x)).mono ?_
                      rintro e wdy ⟨vy, uy, rfl, oo, o2, oa, hb⟩
                      try rw [HPG.out]
                      try rw [HXS.out] at oo
                      try rw [HNG.out]
                      try rw [HYS.out]
                      try rw [HBB.out]
                      try rw [HYS.out] at o2
                      obtain ⟨Ayr, Cyr, ef⟩ := Own.form oo
                      obtain ⟨Byr, Dyr, eg⟩ := Own.form o2
                      subst ef eg
                      refine ⟨_, rfl, ([.p wcy.heap.size wdy.heap.size (.slice Ayr XS.length Cyr) (.slice Byr YS.length Dyr) XS YS], some (wN.heap.size, [.int .i64 0, .slice none 0 0, .int .i64 0, .slice none 0 0])), Lib.hid (((hc.out.sub (L' := []) (fun _ m => (by cases m))).add hb (Hl.mk2 oo o2 oa) (Nat.le_refl _))), ?_⟩
                      clear hb oo o2 oa hc
                      refine wpAnyH_take (i := 8) (d := some 117) (.tuple #[.agg #[.int .i64 PG, .slice Ayr XS.length Cyr, .int .i64 NG, .slice Byr YS.length Dyr], .bool BB]) rfl (by kernel_rfl) rfl rfl (by kernel_rfl) (by kernel_rfl) (by kernel_rfl) (fun _ => by kernel_rfl) ?_
                      refine wpAnyH_take (i := 9) (d := some 126) (.agg #[.int .i64 PG, .slice Ayr XS.length Cyr, .int .i64 NG, .slice Byr YS.length Dyr]) rfl (by kernel_rfl) rfl rfl (by kernel_rfl) (by kernel_rfl) (by kernel_rfl) (fun _ => by kernel_rfl) ?_
                      refine wpAnyH_take (i := 10) (d := some 127) (.bool BB) rfl (by kernel_rfl) rfl rfl (by kernel_rfl) (by kernel_rfl) (by kernel_rfl) (fun _ => by kernel_rfl) ?_
                      refine wpAnyH_special (i := 12) (d := none) rfl (by kernel_rfl) rfl rfl (by kernel_rfl) fun we he => ?_
                      have kb := (he.out.bx _ _ rfl).2.1
                      have k0 := kb.cell 0; have f0 := kb.frozen 0
                      have k1 := kb.cell 1; have f1 := kb.frozen 1
                      have k2 := kb.cell 2; have f2 := kb.frozen 2
                      have k3 := kb.cell 3; have f3 := kb.frozen 3
                      simp at k0 k1 k2 k3
                      refine ⟨undef, (((we.setCell ⟨wN.heap.size, 0, none⟩ (.int .i64 PG)).setCell ⟨wN.heap.size, 1, none⟩ (.slice Ayr XS.length Cyr)).setCell ⟨wN.heap.size, 2, none⟩ (.int .i64 NG)).setCell ⟨wN.heap.size, 3, none⟩ (.slice Byr YS.length Dyr), ([.p wcy.heap.size wdy.heap.size (.slice Ayr XS.length Cyr) (.slice Byr YS.length Dyr) XS YS], some (wN.heap.size, [.int .i64 PG, .slice Ayr XS.length Cyr, .int .i64 NG, .slice Byr YS.length Dyr])), .inr ⟨by simp [go_sem, Act.put, k0, k1, k2, k3, f0, f1, f2, f3], rfl⟩, Lib.hid ((((he.out.put 0 _).put 1 _).put 2 _).put 3 _), ?_⟩
                      clear he kb k0 k1 k2 k3 f0 f1 f2 f3
                      refine wpAnyH_assign (i := 13) (d := some 21) _ rfl (by kernel_rfl) rfl rfl (by kernel_rfl) rfl ?_
                      exact ⟨by kernel_rfl, ⟨vy0, vy1, vy2, Ayr, Cyr, Byr, Dyr, wcy.heap.size, wdy.heap.size, wN.heap.size⟩, rfl, by kernel_rfl⟩
                  · skip
                    refine hOp_special (d := some 20) rfl rfl rfl (by kernel_rfl) fun wN hc => ⟨.pointer (some ⟨wN.heap.size, 0, none⟩), wN.alloc (.cells #[.int .i64 0, .slice none 0 0, .int .i64 0, .slice none 0 0] 50), ([.l way1.heap.size wby1.heap.size vy1 x1, .l way0.heap.size wby0.heap.size vy0 x0], some (wN.heap.size, [.int .i64 0, .slice none 0 0, .int .i64 0, .slice none 0 0])), by kernel_rfl, Lib.hid (hc.out.made [.int .i64 0, .slice none 0 0, .int .i64 0, .slice none 0 0] _), ?_⟩
                    clear hc
                    refine wpAnyH_call (i := 6) (d := some 124) 20 #[.slice a3 x3.length c3] rfl (by kernel_rfl) rfl rfl (by kernel_rfl) (fun _ => by kernel_rfl) fun way2 hc => ?_
                    refine (toI_any a3 c3 x3 way2 (HA3.out.on (S26.out.on hc.out.be).be) s3).mono ?_
                    rintro e wby2 ⟨vy2, rfl, oo, hb⟩
                    refine ⟨_, rfl, ([.l way2.heap.size wby2.heap.size vy2 x3, .l way1.heap.size wby1.heap.size vy1 x1, .l way0.heap.size wby0.heap.size vy0 x0], some (wN.heap.size, [.int .i64 0, .slice none 0 0, .int .i64 0, .slice none 0 0])), Lib.hid (hc.out.add hb (Hl.mk1 oo) (Nat.le_refl _)), ?_⟩
                    clear oo hb hc
                    refine wpAnyH_call (i := 7) (d := some 125) 48 #[.agg #[.int .i64 p0, vy0], .agg #[.int .i64 p1, vy1], .int .i64 n2, vy2] rfl (by kernel_rfl) rfl rfl (by kernel_rfl) (fun _ => by kernel_rfl) fun wcy hc => ?_
                    refine (((imd_any p0 p1 n2 _ _ _ x0 x1 x3 wcy (Ints.of_own (hc.out.ls _ (.tail _ (.tail _ (.head _)))).1 (small20 s0)) (Ints.of_own (hc.out.ls _ (.tail _ (.head _))).1 (small20 s1)) (Ints.of_own (hc.out.ls _ (.head _)).1 (small20 s3)) (hc.out.ls _ (.head _)).1.capped IX0.out IX1.out).mono fun _ _ h => h.x)).mono ?_
                    rintro e wdy ⟨vy, uy, rfl, oo, o2, oa, hb⟩
                    try rw [HPG.out]
                    try rw [HXS.out] at oo
                    try rw [HNG.out]
                    try rw [HYS.out]
                    try rw [HBB.out]
                    try rw [HYS.out] at o2
                    obtain ⟨Ayr, Cyr, ef⟩ := Own.form oo
                    obtain ⟨Byr, Dyr, eg⟩ := Own.form o2
                    subst ef eg
                    refine ⟨_, rfl, ([.p wcy.heap.size wdy.heap.size (.slice Ayr XS.length Cyr) (.slice Byr YS.length Dyr) XS YS], some (wN.heap.size, [.int .i64 0, .slice none 0 0, .int .i64 0, .slice none 0 0])), Lib.hid (((hc.out.sub (L' := []) (fun _ m => (by cases m))).add hb (Hl.mk2 oo o2 oa) (Nat.le_refl _))), ?_⟩
                    clear hb oo o2 oa hc
                    refine wpAnyH_take (i := 8) (d := some 117) (.tuple #[.agg #[.int .i64 PG, .slice Ayr XS.length Cyr, .int .i64 NG, .slice Byr YS.length Dyr], .bool BB]) rfl (by kernel_rfl) rfl rfl (by kernel_rfl) (by kernel_rfl) (by kernel_rfl) (fun _ => by kernel_rfl) ?_
                    refine wpAnyH_take (i := 9) (d := some 126) (.agg #[.int .i64 PG, .slice Ayr XS.length Cyr, .int .i64 NG, .slice Byr YS.length Dyr]) rfl (by kernel_rfl) rfl rfl (by kernel_rfl) (by kernel_rfl) (by kernel_rfl) (fun _ => by kernel_rfl) ?_
                    refine wpAnyH_take (i := 10) (d := some 127) (.bool BB) rfl (by kernel_rfl) rfl rfl (by kernel_rfl) (by kernel_rfl) (by kernel_rfl) (fun _ => by kernel_rfl) ?_
                    refine wpAnyH_special (i := 12) (d := none) rfl (by kernel_rfl) rfl rfl (by kernel_rfl) fun we he => ?_
                    have kb := (he.out.bx _ _ rfl).2.1
                    have k0 := kb.cell 0; have f0 := kb.frozen 0
                    have k1 := kb.cell 1; have f1 := kb.frozen 1
                    have k2 := kb.cell 2; have f2 := kb.frozen 2
                    have k3 := kb.cell 3; have f3 := kb.frozen 3
                    simp at k0 k1 k2 k3
                    refine ⟨undef, (((we.setCell ⟨wN.heap.size, 0, none⟩ (.int .i64 PG)).setCell ⟨wN.heap.size, 1, none⟩ (.slice Ayr XS.length Cyr)).setCell ⟨wN.heap.size, 2, none⟩ (.int .i64 NG)).setCell ⟨wN.heap.size, 3, none⟩ (.slice Byr YS.length Dyr), ([.p wcy.heap.size wdy.heap.size (.slice Ayr XS.length Cyr) (.slice Byr YS.length Dyr) XS YS], some (wN.heap.size, [.int .i64 PG, .slice Ayr XS.length Cyr, .int .i64 NG, .slice Byr YS.length Dyr])), .inr ⟨by simp [go_sem, Act.put, k0, k1, k2, k3, f0, f1, f2, f3], rfl⟩, Lib.hid ((((he.out.put 0 _).put 1 _).put 2 _).put 3 _), ?_⟩
                    clear he kb k0 k1 k2 k3 f0 f1 f2 f3
                    refine wpAnyH_assign (i := 13) (d := some 21) _ rfl (by kernel_rfl) rfl rfl (by kernel_rfl) rfl ?_
                    exact ⟨by kernel_rfl, ⟨vy0, vy1, vy2, Ayr, Cyr, Byr, Dyr, wcy.heap.size, wdy.heap.size, wN.heap.size⟩, rfl, by kernel_rfl⟩
                · skip
                  refine hOp_special (d := some 20) rfl rfl rfl (by kernel_rfl) fun wN hc => ⟨.pointer (some ⟨wN.heap.size, 0, none⟩), wN.alloc (.cells #[.int .i64 0, .slice none 0 0, .int .i64 0, .slice none 0 0] 50), ([.l way0.heap.size wby0.heap.size vy0 x0], some (wN.heap.size, [.int .i64 0, .slice none 0 0, .int .i64 0, .slice none 0 0])), by kernel_rfl, Lib.hid (hc.out.made [.int .i64 0, .slice none 0 0, .int .i64 0, .slice none 0 0] _), ?_⟩
                  clear hc
                  refine wpAnyH_call (i := 3) (d := some 121) 16 #[.agg #[.int .i64 p1, .slice a1 x1.length c1]] rfl (by kernel_rfl) rfl rfl (by kernel_rfl) (fun _ => by kernel_rfl) fun way1 hc => ?_
                  refine (togr_any p1 a1 c1 x1 way1 (HA1.out.on (S26.out.on hc.out.be).be) s1).mono ?_
                  rintro e wby1 ⟨vy1, rfl, oo, hb⟩
                  refine ⟨_, rfl, ([.l way1.heap.size wby1.heap.size vy1 x1, .l way0.heap.size wby0.heap.size vy0 x0], some (wN.heap.size, [.int .i64 0, .slice none 0 0, .int .i64 0, .slice none 0 0])), Lib.hid (hc.out.add hb (Hl.mk1 oo) (Nat.le_refl _)), ?_⟩
                  clear oo hb hc
                  refine wpAnyH_call (i := 6) (d := some 124) 20 #[.slice a3 x3.length c3] rfl (by kernel_rfl) rfl rfl (by kernel_rfl) (fun _ => by kernel_rfl) fun way2 hc => ?_
                  refine (toI_any a3 c3 x3 way2 (HA3.out.on (S26.out.on hc.out.be).be) s3).mono ?_
                  rintro e wby2 ⟨vy2, rfl, oo, hb⟩
                  refine ⟨_, rfl, ([.l way2.heap.size wby2.heap.size vy2 x3, .l way1.heap.size wby1.heap.size vy1 x1, .l way0.heap.size wby0.heap.size vy0 x0], some (wN.heap.size, [.int .i64 0, .slice none 0 0, .int .i64 0, .slice none 0 0])), Lib.hid (hc.out.add hb (Hl.mk1 oo) (Nat.le_refl _)), ?_⟩
                  clear oo hb hc
                  refine wpAnyH_call (i := 7) (d := some 125) 48 #[.agg #[.int .i64 p0, vy0], .agg #[.int .i64 p1, vy1], .int .i64 n2, vy2] rfl (by kernel_rfl) rfl rfl (by kernel_rfl) (fun _ => by kernel_rfl) fun wcy hc => ?_
                  refine (((imd_any p0 p1 n2 _ _ _ x0 x1 x3 wcy (Ints.of_own (hc.out.ls _ (.tail _ (.tail _ (.head _)))).1 (small20 s0)) (Ints.of_own (hc.out.ls _ (.tail _ (.head _))).1 (small20 s1)) (Ints.of_own (hc.out.ls _ (.head _)).1 (small20 s3)) (hc.out.ls _ (.head _)).1.capped IX0.out IX1.out).mono fun _ _ h => h.x)).mono ?_
                  rintro e wdy ⟨vy, uy, rfl, oo, o2, oa, hb⟩
                  try rw [HPG.out]
                  try rw [HXS.out] at oo
                  try rw [HNG.out]
                  try rw [HYS.out]
                  try rw [HBB.out]
                  try rw [HYS.out] at o2
                  obtain ⟨Ayr, Cyr, ef⟩ := Own.form oo
                  obtain ⟨Byr, Dyr, eg⟩ := Own.form o2
                  subst ef eg
                  refine ⟨_, rfl, ([.p wcy.heap.size wdy.heap.size (.slice Ayr XS.length Cyr) (.slice Byr YS.length Dyr) XS YS], some (wN.heap.size, [.int .i64 0, .slice none 0 0, .int .i64 0, .slice none 0 0])), Lib.hid (((hc.out.sub (L' := []) (fun _ m => (by cases m))).add hb (Hl.mk2 oo o2 oa) (Nat.le_refl _))), ?_⟩
                  clear hb oo o2 oa hc
                  refine wpAnyH_take (i := 8) (d := some 117) (.tuple #[.agg #[.int .i64 PG, .slice Ayr XS.length Cyr, .int .i64 NG, .slice Byr YS.length Dyr], .bool BB]) rfl (by kernel_rfl) rfl rfl (by kernel_rfl) (by kernel_rfl) (by kernel_rfl) (fun _ => by kernel_rfl) ?_
                  refine wpAnyH_take (i := 9) (d := some 126) (.agg #[.int .i64 PG, .slice Ayr XS.length Cyr, .int .i64 NG, .slice Byr YS.length Dyr]) rfl (by kernel_rfl) rfl rfl (by kernel_rfl) (by kernel_rfl) (by kernel_rfl) (fun _ => by kernel_rfl) ?_
                  refine wpAnyH_take (i := 10) (d := some 127) (.bool BB) rfl (by kernel_rfl) rfl rfl (by kernel_rfl) (by kernel_rfl) (by kernel_rfl) (fun _ => by kernel_rfl) ?_
                  refine wpAnyH_special (i := 12) (d := none) rfl (by kernel_rfl) rfl rfl (by kernel_rfl) fun we he => ?_
                  have kb := (he.out.bx _ _ rfl).2.1
                  have k0 := kb.cell 0; have f0 := kb.frozen 0
                  have k1 := kb.cell 1; have f1 := kb.frozen 1
                  have k2 := kb.cell 2; have f2 := kb.frozen 2
                  have k3 := kb.cell 3; have f3 := kb.frozen 3
                  simp at k0 k1 k2 k3
                  refine ⟨undef, (((we.setCell ⟨wN.heap.size, 0, none⟩ (.int .i64 PG)).setCell ⟨wN.heap.size, 1, none⟩ (.slice Ayr XS.length Cyr)).setCell ⟨wN.heap.size, 2, none⟩ (.int .i64 NG)).setCell ⟨wN.heap.size, 3, none⟩ (.slice Byr YS.length Dyr), ([.p wcy.heap.size wdy.heap.size (.slice Ayr XS.length Cyr) (.slice Byr YS.length Dyr) XS YS], some (wN.heap.size, [.int .i64 PG, .slice Ayr XS.length Cyr, .int .i64 NG, .slice Byr YS.length Dyr])), .inr ⟨by simp [go_sem, Act.put, k0, k1, k2, k3, f0, f1, f2, f3], rfl⟩, Lib.hid ((((he.out.put 0 _).put 1 _).put 2 _).put 3 _), ?_⟩
                  clear he kb k0 k1 k2 k3 f0 f1 f2 f3
                  refine wpAnyH_assign (i := 13) (d := some 21) _ rfl (by kernel_rfl) rfl rfl (by kernel_rfl) rfl ?_
                  exact ⟨by kernel_rfl, ⟨vy0, vy1, vy2, Ayr, Cyr, Byr, Dyr, wcy.heap.size, wdy.heap.size, wN.heap.size⟩, rfl, by kernel_rfl⟩
              · skip
                refine hOp_special (d := some 20) rfl rfl rfl (by kernel_rfl) fun wN hc => ⟨.pointer (some ⟨wN.heap.size, 0, none⟩), wN.alloc (.cells #[.int .i64 0, .slice none 0 0, .int .i64 0, .slice none 0 0] 50), ([], some (wN.heap.size, [.int .i64 0, .slice none 0 0, .int .i64 0, .slice none 0 0])), by kernel_rfl, Lib.hid (hc.out.made [.int .i64 0, .slice none 0 0, .int .i64 0, .slice none 0 0] _), ?_⟩
                clear hc
                refine wpAnyH_call (i := 1) (d := some 119) 16 #[.agg #[.int .i64 p0, .slice a0 x0.length c0]] rfl (by kernel_rfl) rfl rfl (by kernel_rfl) (fun _ => by kernel_rfl) fun way0 hc => ?_
                refine (togr_any p0 a0 c0 x0 way0 (HA0.out.on (S26.out.on hc.out.be).be) s0).mono ?_
                rintro e wby0 ⟨vy0, rfl, oo, hb⟩
                refine ⟨_, rfl, ([.l way0.heap.size wby0.heap.size vy0 x0], some (wN.heap.size, [.int .i64 0, .slice none 0 0, .int .i64 0, .slice none 0 0])), Lib.hid (hc.out.add hb (Hl.mk1 oo) (Nat.le_refl _)), ?_⟩
                clear oo hb hc
                refine wpAnyH_call (i := 3) (d := some 121) 16 #[.agg #[.int .i64 p1, .slice a1 x1.length c1]] rfl (by kernel_rfl) rfl rfl (by kernel_rfl) (fun _ => by kernel_rfl) fun way1 hc => ?_
                refine (togr_any p1 a1 c1 x1 way1 (HA1.out.on (S26.out.on hc.out.be).be) s1).mono ?_
                rintro e wby1 ⟨vy1, rfl, oo, hb⟩
                refine ⟨_, rfl, ([.l way1.heap.size wby1.heap.size vy1 x1, .l way0.heap.size wby0.heap.size vy0 x0], some (wN.heap.size, [.int .i64 0, .slice none 0 0, .int .i64 0, .slice none 0 0])), Lib.hid (hc.out.add hb (Hl.mk1 oo) (Nat.le_refl _)), ?_⟩
                clear oo hb hc
                refine wpAnyH_call (i := 6) (d := some 124) 20 #[.slice a3 x3.length c3] rfl (by kernel_rfl) rfl rfl (by kernel_rfl) (fun _ => by kernel_rfl) fun way2 hc => ?_
                refine (toI_any a3 c3 x3 way2 (HA3.out.on (S26.out.on hc.out.be).be) s3).mono ?_
                rintro e wby2 ⟨vy2, rfl, oo, hb⟩
                refine ⟨_, rfl, ([.l way2.heap.size wby2.heap.size vy2 x3, .l way1.heap.size wby1.heap.size vy1 x1, .l way0.heap.size wby0.heap.size vy0 x0], some (wN.heap.size, [.int .i64 0, .slice none 0 0, .int .i64 0, .slice none 0 0])), Lib.hid (hc.out.add hb (Hl.mk1 oo) (Nat.le_refl _)), ?_⟩
                clear oo hb hc
                refine wpAnyH_call (i := 7) (d := some 125) 48 #[.agg #[.int .i64 p0, vy0], .agg #[.int .i64 p1, vy1], .int .i64 n2, vy2] rfl (by kernel_rfl) rfl rfl (by kernel_rfl) (fun _ => by kernel_rfl) fun wcy hc => ?_
                refine (((imd_any p0 p1 n2 _ _ _ x0 x1 x3 wcy (Ints.of_own (hc.out.ls _ (.tail _ (.tail _ (.head _)))).1 (small20 s0)) (Ints.of_own (hc.out.ls _ (.tail _ (.head _))).1 (small20 s1)) (Ints.of_own (hc.out.ls _ (.head _)).1 (small20 s3)) (hc.out.ls _ (.head _)).1.capped IX0.out IX1.out).mono fun _ _ h => h.x)).mono ?_
                rintro e wdy ⟨vy, uy, rfl, oo, o2, oa, hb⟩
                try rw [HPG.out]
                try rw [HXS.out] at oo
                try rw [HNG.out]
                try rw [HYS.out]
                try rw [HBB.out]
                try rw [HYS.out] at o2
                obtain ⟨Ayr, Cyr, ef⟩ := Own.form oo
                obtain ⟨Byr, Dyr, eg⟩ := Own.form o2
                subst ef eg
                refine ⟨_, rfl, ([.p wcy.heap.size wdy.heap.size (.slice Ayr XS.length Cyr) (.slice Byr YS.length Dyr) XS YS], some (wN.heap.size, [.int .i64 0, .slice none 0 0, .int .i64 0, .slice none 0 0])), Lib.hid (((hc.out.sub (L' := []) (fun _ m => (by cases m))).add hb (Hl.mk2 oo o2 oa) (Nat.le_refl _))), ?_⟩
                clear hb oo o2 oa hc
                refine wpAnyH_take (i := 8) (d := some 117) (.tuple #[.agg #[.int .i64 PG, .slice Ayr XS.length Cyr, .int .i64 NG, .slice Byr YS.length Dyr], .bool BB]) rfl (by kernel_rfl) rfl rfl (by kernel_rfl) (by kernel_rfl) (by kernel_rfl) (fun _ => by kernel_rfl) ?_
                refine wpAnyH_take (i := 9) (d := some 126) (.agg #[.int .i64 PG, .slice Ayr XS.length Cyr, .int .i64 NG, .slice Byr YS.length Dyr]) rfl (by kernel_rfl) rfl rfl (by kernel_rfl) (by kernel_rfl) (by kernel_rfl) (fun _ => by kernel_rfl) ?_
                refine wpAnyH_take (i := 10) (d := some 127) (.bool BB) rfl (by kernel_rfl) rfl rfl (by kernel_rfl) (by kernel_rfl) (by kernel_rfl) (fun _ => by kernel_rfl) ?_
                refine wpAnyH_special (i := 12) (d := none) rfl (by kernel_rfl) rfl rfl (by kernel_rfl) fun we he => ?_
                have kb := (he.out.bx _ _ rfl).2.1
                have k0 := kb.cell 0; have f0 := kb.frozen 0
                have k1 := kb.cell 1; have f1 := kb.frozen 1
                have k2 := kb.cell 2; have f2 := kb.frozen 2
                have k3 := kb.cell 3; have f3 := kb.frozen 3
                simp at k0 k1 k2 k3
                refine ⟨undef, (((we.setCell ⟨wN.heap.size, 0, none⟩ (.int .i64 PG)).setCell ⟨wN.heap.size, 1, none⟩ (.slice Ayr XS.length Cyr)).setCell ⟨wN.heap.size, 2, none⟩ (.int .i64 NG)).setCell ⟨wN.heap.size, 3, none⟩ (.slice Byr YS.length Dyr), ([.p wcy.heap.size wdy.heap.size (.slice Ayr XS.length Cyr) (.slice Byr YS.length Dyr) XS YS], some (wN.heap.size, [.int .i64 PG, .slice Ayr XS.length Cyr, .int .i64 NG, .slice Byr YS.length Dyr])), .inr ⟨by simp [go_sem, Act.put, k0, k1, k2, k3, f0, f1, f2, f3], rfl⟩, Lib.hid ((((he.out.put 0 _).put 1 _).put 2 _).put 3 _), ?_⟩
                clear he kb k0 k1 k2 k3 f0 f1 f2 f3
                refine wpAnyH_assign (i := 13) (d := some 21) _ rfl (by kernel_rfl) rfl rfl (by kernel_rfl) rfl ?_
                exact ⟨by kernel_rfl, ⟨vy0, vy1, vy2, Ayr, Cyr, Byr, Dyr, wcy.heap.size, wdy.heap.size, wN.heap.size⟩, rfl, by kernel_rfl⟩
            · skip
              rintro ⟨vy0, vy1, vy2, Ayr, Cyr, Byr, Dyr, loy, hiy, Ny⟩ w23 hz
              dsimp only at hz ⊢
              simp only [Act.put, List.setIfInBounds_toArray, List.set_cons_zero, List.set_cons_succ]
              have S27 := Lib.hid (hz.out.fin S26.out)
              clear S26
              have Z25 : Hid (hiy ≤ w23.heap.size) := Lib.hid ((S27.out.ls _ (.head _)).size)
              have Z26 : Hid (Ny < w23.heap.size) := Lib.hid ((S27.out.bx _ (.head _)).lt)
              have Z27 : Hid (w22.heap.size ≤ w23.heap.size) := Lib.hid (hz.out.be.size)
              clear hz
              have qyr_0 := (S27.out.bx _ (.head _)).cell 0
              have qyr_1 := (S27.out.bx _ (.head _)).cell 1
              have qyr_2 := (S27.out.bx _ (.head _)).cell 2
              have qyr_3 := (S27.out.bx _ (.head _)).cell 3
              have qzr_0 := (S27.out.bx _ (.tail _ (.tail _ (.tail _ (.tail _ (.head _)))))).cell 0
              have qzr_1 := (S27.out.bx _ (.tail _ (.tail _ (.tail _ (.tail _ (.head _)))))).cell 1
              have qzr_2 := (S27.out.bx _ (.tail _ (.tail _ (.tail _ (.tail _ (.head _)))))).cell 2
              have qzr_3 := (S27.out.bx _ (.tail _ (.tail _ (.tail _ (.tail _ (.head _)))))).cell 3
              simp at qyr_0 qyr_1 qyr_2 qyr_3 qzr_0 qzr_1 qzr_2 qzr_3
              go_wp2_with fail
              refine (eqtr_any PG NG _ _ _ _ XS YS _ (Ints.of_own (S27.out.ls _ (.head _)).1 HXL.out) (Ints.of_own (S27.out.ls _ (.tail _ (.tail _ (.tail _ (.tail _ (.tail _ (.head _))))))).1 HXL.out) (Ints.of_own (S27.out.ls _ (.head _)).2.1 HYL.out) (Ints.of_own (S27.out.ls _ (.tail _ (.tail _ (.tail _ (.tail _ (.tail _ (.head _))))))).2.1 HYL.out)).mono ?_
              rintro e w24 ⟨rfl, hb⟩
              clear qyr_0 qyr_1 qyr_2 qyr_3 qzr_0 qzr_1 qzr_2 qzr_3
              have S28 := Lib.hid (S27.out.on hb)
              clear S27
              have Z28 : Hid (w23.heap.size ≤ w24.heap.size) := Lib.hid (hb.size)
              clear hb
              have qgr_0 := (S28.out.bx _ (.tail _ (.head _))).cell 0
              have qgr_1 := (S28.out.bx _ (.tail _ (.head _))).cell 1
              have qgr_2 := (S28.out.bx _ (.tail _ (.head _))).cell 2
              have qgr_3 := (S28.out.bx _ (.tail _ (.head _))).cell 3
              simp at qgr_0 qgr_1 qgr_2 qgr_3
              go_wp2_with fail
              refine (hdtr_any PG NG _ _ XS YS 1 _ (Ints.of_own (S28.out.ls _ (.tail _ (.head _))).1 (by rw [markTo_len]; exact HXL.out)) (Ints.of_own (S28.out.ls _ (.tail _ (.head _))).2.1 (by rw [markTo_len]; exact HYL.out)) (by omega) (by omega) (by omega) (by omega)).mono ?_
              rintro e w25 ⟨rfl, hb⟩
              rw [HK_4.out]
              clear qgr_0 qgr_1 qgr_2 qgr_3
              have S29 := Lib.hid (S28.out.on hb)
              clear S28
              have Z29 : Hid (w24.heap.size ≤ w25.heap.size) := Lib.hid (hb.size)
              clear hb
              go_wp2
              go_ret
              exact ⟨rfl, S29.out.be⟩
end Go.Proofs.Ytipndddmjgjgpaa
