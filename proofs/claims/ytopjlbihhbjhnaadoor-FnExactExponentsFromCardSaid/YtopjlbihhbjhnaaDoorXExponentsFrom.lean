/- The exact law of ExponentsFrom, walked: spec's answer, impl's answer, and that both are the same; no argument is written to; the answer owns its memory. -/
import Derived.Test.YtopjlbihhbjhnaaDoorZs
import Derived.Test.YtopjlbihhbjhnaaDoorFromS
namespace Go.Proofs.YtopjlbihhbjhnaaDoor
open Go.RowKit

set_option maxHeartbeats 6400000 in
theorem xExponentsFrom_walk (g : Int) (a : Option Addr) (c : Nat) (rows : List (List Int)) (b : Option Addr) (d : Nat) (makes : List Int) (taa : Option Addr) (tac : Nat) (tas : List Int) (taq : Int) (tab : Option Addr) (tad : Nat) (tat : List Int) (tba : Option Addr) (tbc : Nat) (tbs : List Int) (tbq : Int) (tbb : Option Addr) (tbd : Nat) (tbt : List Int) (w : World) (G : Gr w) (ha : ArgSS w a rows) (hb : ArgI w b makes) (hn : rows.length ≤ maxLen) (hr : ∀ j, j < rows.length → (row rows j).length ≤ maxLen) (hm : makes.length ≤ maxLen) (htas : ArgI w taa tas) (mtas : tas.length ≤ maxLen) (htat : ArgI w tab tat) (mtat : tat.length ≤ maxLen) (htbs : ArgI w tba tbs) (mtbs : tbs.length ≤ maxLen) (htbt : ArgI w tbb tbt) (mtbt : tbt.length ≤ maxLen) :
    Calls Tryd.prog 11 #[.agg #[.int .i64 g, .slice a rows.length c, .slice b makes.length d], .agg #[.slice taa tas.length tac, .int .i64 taq, .slice tab tat.length tad], .agg #[.slice tba tbs.length tbc, .int .i64 tbq, .slice tbb tbt.length tbd]] w fun e w' => e = .returned (.bool true) ∧ Below w.heap.size w w' := by
  have HG := Lib.hid G
  have HA := Lib.hid ha
  have HB := Lib.hid hb
  have HR := Lib.hid hr
  obtain ⟨xs, hxs⟩ : ∃ xs, frL g rows makes tas taq tat tbs tbq tbt = xs := ⟨_, rfl⟩
  have HXL : Hid (xs.length ≤ 1000) := Lib.hid (by rw [← hxs]; exact Nat.le_trans (frL_len _ _ _ _ _ _ _ _ _) (by omega))
  have HXS := Lib.hid hxs
  obtain ⟨FB, hfb⟩ : ∃ FB, frB g rows makes tas taq tat tbs tbq tbt = FB := ⟨_, rfl⟩
  have HFB := Lib.hid hfb
  have hqfb := bne_self FB
  clear hxs hfb
  unfold maxLen at hn hm
  have Htas := Lib.hid htas
  have Htat := Lib.hid htat
  unfold maxLen at mtas mtat
  have Htbs := Lib.hid htbs
  have Htbt := Lib.hid htbt
  unfold maxLen at mtbs mtbt
  clear ha hb hr G htas htat htbs htbt
  go_enter Tryd.func11, Tryd.ntmps11
  go_wp2_with fail
  refine (szcl_any g a b c d rows makes 1048576 _ (((HA.out.on (below_grow _ _)).on (below_grow _ _)).on (below_grow _ _)) hn HR.out hm (by omega) (by omega)).mono ?_
  rintro e w1 ⟨r, rfl, hb, hres⟩
  obtain ⟨p0, p1, p2, l1⟩ := boxes3 hb
  have P0 := Lib.hid p0
  have P1 := Lib.hid p1
  have P2 := Lib.hid p2
  have L1 := Lib.hid l1
  clear hb l1 p0 p1 p2
  rcases hres with rfl | ⟨r0, r1, s1, s2, s3, s4⟩
  · go_wp2
    go_ret
    exact ⟨rfl, L1.out⟩
  have S2 := Lib.hid s2
  clear s2
  have q0 := P1.out.cell 0
  have q1 := P1.out.cell 1
  have q2 := P1.out.cell 2
  simp at q0 q1 q2
  go_wp2_with fail
  refine (szw_any taq taa tab tas.length tac tat.length tad _ _ mtas mtat (by omega) (by omega)).mono ?_
  rintro e w2 ⟨tar, rfl, hb, hres⟩
  have B1 := Lib.hid hb
  clear hb q0 q1 q2
  rcases hres with rfl | ⟨tar0, tar1, tas1, tas2⟩
  · go_wp2
    go_ret
    exact ⟨rfl, (Below.on L1.out B1.out)⟩
  have q0 := (P2.out.on B1.out).cell 0
  have q1 := (P2.out.on B1.out).cell 1
  have q2 := (P2.out.on B1.out).cell 2
  simp at q0 q1 q2
  go_wp2_with fail
  refine (szw_any tbq tba tbb tbs.length tbc tbt.length tbd _ _ mtbs mtbt (by omega) (by omega)).mono ?_
  rintro e w3 ⟨tbr, rfl, hb, hres⟩
  have B2 := Lib.hid hb
  clear hb q0 q1 q2
  rcases hres with rfl | ⟨tbr0, tbr1, tbs1, tbs2⟩
  · go_wp2
    go_ret
    exact ⟨rfl, (Below.on L1.out (Below.on B1.out B2.out))⟩
  have HC0 : Hid (∀ w', Below w3.heap.size w3 w' → Box w' w.heap.size [.int .i64 g, .slice a rows.length c, .slice b makes.length d] ∧ Box w' (w.heap.size + 1) [.slice taa tas.length tac, .int .i64 taq, .slice tab tat.length tad] ∧ Box w' (w.heap.size + 1 + 1) [.slice tba tbs.length tbc, .int .i64 tbq, .slice tbb tbt.length tbd]) := Lib.hid fun w' hb => ⟨(P0.out.on (Below.on B1.out B2.out)).on hb, (P1.out.on (Below.on B1.out B2.out)).on hb, (P2.out.on (Below.on B1.out B2.out)).on hb⟩
  go_wp2_with fail
  apply wp_region_H (S := fun k => k == 1 || k == 3 || k == 5 || k == 6) (C := fun z w' => Hid (Zc w3 rows makes tas tat tbs tbt xs z w')) [0, 2, 4] []
  · kernel_rfl
  · kernel_rfl
  · kernel_rfl
  · exact ⟨rfl, rfl, rfl, trivial⟩
  · rfl
  · decide
  · exact Lib.hid (Below.refl _ _).drew
  · intro z
    dsimp only [pickL, nthO]
    repeat (first | go_big_quiet_skip | (go_big_quiet_want; go_big_quiet_op; first | go_big_quiet_on | (refine ⟨_, fun _ _ => rfl, ?_⟩; go_big_quiet_on)))
    go_big_quiet_want
    go_big_quiet_op
    refine ⟨.agg #[.int .i64 g, .slice a rows.length c, .slice b makes.length d], fun w' hw' => ?_, ?_⟩
    · have q := (HC0.out w' hw'.out.below).1
      have q0 := q.cell 0; have q1 := q.cell 1; have q2 := q.cell 2
      simp at q0 q1 q2
      simp [go_sem, q0, q1, q2]
    go_big_quiet_on
    repeat (first | go_big_quiet_skip | (go_big_quiet_want; go_big_quiet_op; first | go_big_quiet_on | (refine ⟨_, fun _ _ => rfl, ?_⟩; go_big_quiet_on)))
    go_big_quiet_want
    go_big_quiet_op
    refine ⟨.agg #[.slice taa tas.length tac, .int .i64 taq, .slice tab tat.length tad], fun w' hw' => ?_, ?_⟩
    · have q := (HC0.out w' hw'.out.below).2.1
      have q0 := q.cell 0; have q1 := q.cell 1; have q2 := q.cell 2
      simp at q0 q1 q2
      simp [go_sem, q0, q1, q2]
    go_big_quiet_on
    repeat (first | go_big_quiet_skip | (go_big_quiet_want; go_big_quiet_op; first | go_big_quiet_on | (refine ⟨_, fun _ _ => rfl, ?_⟩; go_big_quiet_on)))
    go_big_quiet_want
    go_big_quiet_op
    refine ⟨.agg #[.slice tba tbs.length tbc, .int .i64 tbq, .slice tbb tbt.length tbd], fun w' hw' => ?_, ?_⟩
    · have q := (HC0.out w' hw'.out.below).2.2
      have q0 := q.cell 0; have q1 := q.cell 1; have q2 := q.cell 2
      simp at q0 q1 q2
      simp [go_sem, q0, q1, q2]
    go_big_quiet_on
    exact wpQuiet_nil rfl
  · refine wpAnyH_call (i := 1) (d := some 37) 18 #[.agg #[.int .i64 g, .slice a rows.length c, .slice b makes.length d]] rfl (by kernel_rfl) rfl rfl (by kernel_rfl) (fun _ => by kernel_rfl) fun wa hc => ?_
    refine (toCl_any g a b c d rows makes _ (HA.out.on (Below.on (Below.on L1.out (Below.on B1.out B2.out)) hc.out.below)) (HB.out.on (Below.on (Below.on L1.out (Below.on B1.out B2.out)) hc.out.below)) s1 S2.out s3).mono ?_
    rintro e wb ⟨rv1, mv1, us1, rfl, o1, hb⟩
    refine ⟨_, rfl, [rv1, mv1], Lib.hid ⟨Below.on hc.out.below hb, OwnCl.cw o1 s1 S2.out s3⟩, ?_⟩
    clear o1 hb hc
    refine wpAnyH_call (i := 3) (d := some 39) 42 #[.agg #[.slice taa tas.length tac, .int .i64 taq, .slice tab tat.length tad]] rfl (by kernel_rfl) rfl rfl (by kernel_rfl) (fun _ => by kernel_rfl) fun wa hc => ?_
    refine (toW_any taq taa tab tac tad tas tat _ (Htas.out.on (Below.on (Below.on L1.out (Below.on B1.out B2.out)) hc.out.below)) (Htat.out.on (Below.on (Below.on L1.out (Below.on B1.out B2.out)) hc.out.below)) tas1 tas2).mono ?_
    rintro e wb ⟨sv10, tv10, rfl, o1, hb⟩
    refine ⟨_, rfl, [rv1, mv1, sv10, tv10], Lib.hid ⟨Below.on hc.out.below hb, hc.out.2.on hb, Ints.of_own o1.s (small tas1), Ints.of_own o1.t (small tas2)⟩, ?_⟩
    clear o1 hb hc
    refine wpAnyH_call (i := 5) (d := some 41) 42 #[.agg #[.slice tba tbs.length tbc, .int .i64 tbq, .slice tbb tbt.length tbd]] rfl (by kernel_rfl) rfl rfl (by kernel_rfl) (fun _ => by kernel_rfl) fun wa hc => ?_
    refine (toW_any tbq tba tbb tbc tbd tbs tbt _ (Htbs.out.on (Below.on (Below.on L1.out (Below.on B1.out B2.out)) hc.out.below)) (Htbt.out.on (Below.on (Below.on L1.out (Below.on B1.out B2.out)) hc.out.below)) tbs1 tbs2).mono ?_
    rintro e wb ⟨sv11, tv11, rfl, o1, hb⟩
    refine ⟨_, rfl, [rv1, mv1, sv10, tv10, sv11, tv11], Lib.hid ⟨Below.on hc.out.below hb, hc.out.2.1.on hb, hc.out.2.2.1.below hb, hc.out.2.2.2.below hb, Ints.of_own o1.s (small tbs1), Ints.of_own o1.t (small tbs2)⟩, ?_⟩
    clear o1 hb hc
    refine wpAnyH_call (i := 6) (d := some 42) 46 #[.agg #[.int .i64 g, rv1, mv1], .agg #[sv10, .int .i64 taq, tv10], .agg #[sv11, .int .i64 tbq, tv11]] rfl (by kernel_rfl) rfl rfl (by kernel_rfl) (fun _ => by kernel_rfl) fun wa hc => ?_
    refine (sfrom_any g rv1 mv1 sv10 taq tv10 sv11 tbq tv11 rows makes tas tat tbs tbt _ hc.out.2.1 hc.out.2.2.1 hc.out.2.2.2.1 hc.out.2.2.2.2.1 hc.out.2.2.2.2.2).mono ?_
    rintro e wb ⟨v0, rfl, o0, hb⟩
    rw [HFB.out]
    rw [HXS.out] at o0
    refine ⟨_, rfl, [v0], Lib.hid ⟨Below.on hc.out.below hb, own_mono o0 hc.out.below.size⟩, ?_⟩
    clear hc o0 hb
    refine wpAnyH_take (i := 7) (d := some 35) (.tuple #[v0, .bool FB]) rfl (by kernel_rfl) rfl rfl (by kernel_rfl) (by kernel_rfl) (by kernel_rfl) (fun _ => by kernel_rfl) ?_
    refine wpAnyH_take (i := 8) (d := some 43) (v0) rfl (by kernel_rfl) rfl rfl (by kernel_rfl) (by kernel_rfl) (by kernel_rfl) (fun _ => by kernel_rfl) ?_
    refine wpAnyH_take (i := 9) (d := some 44) (.bool FB) rfl (by kernel_rfl) rfl rfl (by kernel_rfl) (by kernel_rfl) (by kernel_rfl) (fun _ => by kernel_rfl) ?_
    refine wpAnyH_take (i := 10) (d := some 8) (v0) rfl (by kernel_rfl) rfl rfl (by kernel_rfl) (by kernel_rfl) (by kernel_rfl) (fun _ => by kernel_rfl) ?_
    refine wpAnyH_take (i := 11) (d := some 9) (.bool FB) rfl (by kernel_rfl) rfl rfl (by kernel_rfl) (by kernel_rfl) (by kernel_rfl) (fun _ => by kernel_rfl) ?_
    refine ⟨by kernel_rfl, fun w4 hz => ?_⟩
    have B3 := Lib.hid (Zc.below hz.out)
    have OV := Lib.hid hz.out.2
    simp only [Act.put]
    clear HC0 hz
    have q0 := (P0.out.on (Below.on B1.out (Below.on B2.out B3.out))).cell 0
    have q1 := (P0.out.on (Below.on B1.out (Below.on B2.out B3.out))).cell 1
    have q2 := (P0.out.on (Below.on B1.out (Below.on B2.out B3.out))).cell 2
    simp at q0 q1 q2
    go_wp2_with fail
    refine (toCl_any g a b c d rows makes _ (HA.out.on (Below.on L1.out (Below.on B1.out (Below.on B2.out B3.out)))) (HB.out.on (Below.on L1.out (Below.on B1.out (Below.on B2.out B3.out)))) s1 S2.out s3).mono ?_
    rintro e w5 ⟨rv2, mv2, us2, rfl, o2, hb⟩
    have B4 := Lib.hid hb
    clear hb
    obtain ⟨⟨ra2, rc2, er2⟩, ma2, mc2, em2⟩ := o2.form
    subst er2 em2
    have O2 := Lib.hid o2
    clear o2 q0 q1 q2
    have q0 := (P1.out.on (Below.on B1.out (Below.on B2.out (Below.on B3.out B4.out)))).cell 0
    have q1 := (P1.out.on (Below.on B1.out (Below.on B2.out (Below.on B3.out B4.out)))).cell 1
    have q2 := (P1.out.on (Below.on B1.out (Below.on B2.out (Below.on B3.out B4.out)))).cell 2
    simp at q0 q1 q2
    have q3 := ((P1.out.on (Below.on B1.out (Below.on B2.out (Below.on B3.out B4.out)))).alloc (.cells #[.int .i64 g, (.slice ra2 rows.length rc2), (.slice ma2 makes.length mc2)] 35)).cell 0
    have q4 := ((P1.out.on (Below.on B1.out (Below.on B2.out (Below.on B3.out B4.out)))).alloc (.cells #[.int .i64 g, (.slice ra2 rows.length rc2), (.slice ma2 makes.length mc2)] 35)).cell 1
    have q5 := ((P1.out.on (Below.on B1.out (Below.on B2.out (Below.on B3.out B4.out)))).alloc (.cells #[.int .i64 g, (.slice ra2 rows.length rc2), (.slice ma2 makes.length mc2)] 35)).cell 2
    simp at q3 q4 q5
    go_wp2_with fail
    refine (toW_any taq taa tab tac tad tas tat _ (Htas.out.on (Below.on (Below.on L1.out (Below.on B1.out (Below.on B2.out (Below.on B3.out B4.out)))) (below_grow _ _))) (Htat.out.on (Below.on (Below.on L1.out (Below.on B1.out (Below.on B2.out (Below.on B3.out B4.out)))) (below_grow _ _))) tas1 tas2).mono ?_
    rintro e w6 ⟨sv3, tv3, rfl, o3, hb⟩
    have B5 := Lib.hid (Below.on (below_grow w5 (.cells #[.int .i64 g, (.slice ra2 rows.length rc2), (.slice ma2 makes.length mc2)] 35)) hb)
    have X2 := Lib.hid ((Box.made w5 [.int .i64 g, (.slice ra2 rows.length rc2), (.slice ma2 makes.length mc2)] 35).on hb)
    clear hb
    obtain ⟨ra3, rc3, er3⟩ := Own.form o3.s
    obtain ⟨ma3, mc3, em3⟩ := Own.form o3.t
    subst er3 em3
    have O3 := Lib.hid (OwnW.lower (lo' := w5.heap.size) o3 (by simp))
    clear o3 q0 q1 q2 q3 q4 q5
    have q0 := (P2.out.on (Below.on B1.out (Below.on B2.out (Below.on B3.out (Below.on B4.out B5.out))))).cell 0
    have q1 := (P2.out.on (Below.on B1.out (Below.on B2.out (Below.on B3.out (Below.on B4.out B5.out))))).cell 1
    have q2 := (P2.out.on (Below.on B1.out (Below.on B2.out (Below.on B3.out (Below.on B4.out B5.out))))).cell 2
    simp at q0 q1 q2
    have q3 := ((P2.out.on (Below.on B1.out (Below.on B2.out (Below.on B3.out (Below.on B4.out B5.out))))).alloc (.cells #[(.slice ra3 tas.length rc3), .int .i64 taq, (.slice ma3 tat.length mc3)] 50)).cell 0
    have q4 := ((P2.out.on (Below.on B1.out (Below.on B2.out (Below.on B3.out (Below.on B4.out B5.out))))).alloc (.cells #[(.slice ra3 tas.length rc3), .int .i64 taq, (.slice ma3 tat.length mc3)] 50)).cell 1
    have q5 := ((P2.out.on (Below.on B1.out (Below.on B2.out (Below.on B3.out (Below.on B4.out B5.out))))).alloc (.cells #[(.slice ra3 tas.length rc3), .int .i64 taq, (.slice ma3 tat.length mc3)] 50)).cell 2
    simp at q3 q4 q5
    go_wp2_with fail
    refine (toW_any tbq tba tbb tbc tbd tbs tbt _ (Htbs.out.on (Below.on (Below.on L1.out (Below.on B1.out (Below.on B2.out (Below.on B3.out (Below.on B4.out B5.out))))) (below_grow _ _))) (Htbt.out.on (Below.on (Below.on L1.out (Below.on B1.out (Below.on B2.out (Below.on B3.out (Below.on B4.out B5.out))))) (below_grow _ _))) tbs1 tbs2).mono ?_
    rintro e w7 ⟨sv4, tv4, rfl, o4, hb⟩
    have B6 := Lib.hid (Below.on (below_grow w6 (.cells #[(.slice ra3 tas.length rc3), .int .i64 taq, (.slice ma3 tat.length mc3)] 50)) hb)
    have X3 := Lib.hid ((Box.made w6 [(.slice ra3 tas.length rc3), .int .i64 taq, (.slice ma3 tat.length mc3)] 50).on hb)
    clear hb
    obtain ⟨ra4, rc4, er4⟩ := Own.form o4.s
    obtain ⟨ma4, mc4, em4⟩ := Own.form o4.t
    subst er4 em4
    have O4 := Lib.hid (OwnW.lower (lo' := w6.heap.size) o4 (by simp))
    clear o4 q0 q1 q2 q3 q4 q5
    have ec0 := ((X2.out.on B6.out).alloc (.cells #[(.slice ra4 tbs.length rc4), .int .i64 tbq, (.slice ma4 tbt.length mc4)] 50)).cell 0
    have ec1 := ((X2.out.on B6.out).alloc (.cells #[(.slice ra4 tbs.length rc4), .int .i64 tbq, (.slice ma4 tbt.length mc4)] 50)).cell 1
    have ec2 := ((X2.out.on B6.out).alloc (.cells #[(.slice ra4 tbs.length rc4), .int .i64 tbq, (.slice ma4 tbt.length mc4)] 50)).cell 2
    simp at ec0 ec1 ec2
    have eta0 := (X3.out.alloc (.cells #[(.slice ra4 tbs.length rc4), .int .i64 tbq, (.slice ma4 tbt.length mc4)] 50)).cell 0
    have eta1 := (X3.out.alloc (.cells #[(.slice ra4 tbs.length rc4), .int .i64 tbq, (.slice ma4 tbt.length mc4)] 50)).cell 1
    have eta2 := (X3.out.alloc (.cells #[(.slice ra4 tbs.length rc4), .int .i64 tbq, (.slice ma4 tbt.length mc4)] 50)).cell 2
    simp at eta0 eta1 eta2
    go_wp2_with fail
    refine (ifrom_any g (.slice ra2 rows.length rc2) (.slice ma2 makes.length mc2) (.slice ra3 tas.length rc3) taq (.slice ma3 tat.length mc3) (.slice ra4 tbs.length rc4) tbq (.slice ma4 tbt.length mc4) rows makes tas tat tbs tbt _ (HG.out.on (Below.on (Below.on L1.out (Below.on B1.out (Below.on B2.out (Below.on B3.out (Below.on B4.out (Below.on B5.out B6.out)))))) (below_grow _ _))) ((OwnCl.cw (O2.out.on (Below.on B5.out B6.out)) s1 S2.out s3).on (below_grow _ _)) ((Ints.of_own (O3.out.on B6.out).s (small tas1)).below (below_grow _ _)) ((Ints.of_own (O3.out.on B6.out).t (small tas2)).below (below_grow _ _)) ((Ints.of_own O4.out.s (small tbs1)).below (below_grow _ _)) ((Ints.of_own O4.out.t (small tbs2)).below (below_grow _ _))).mono ?_
    rintro e w8 ⟨g1, rfl, o0, hb⟩
    have B7 := Lib.hid (Below.on (below_grow w7 (.cells #[(.slice ra4 tbs.length rc4), .int .i64 tbq, (.slice ma4 tbt.length mc4)] 50)) hb)
    have X4 := Lib.hid ((Box.made w7 [(.slice ra4 tbs.length rc4), .int .i64 tbq, (.slice ma4 tbt.length mc4)] 50).on hb)
    clear hb
    rw [HFB.out]
    rw [HXS.out] at o0
    have OG1 := Lib.hid o0
    clear o0
    clear ec0 ec1 ec2
    clear eta0 eta1 eta2
    go_wp2_with fail
    refine (eqs_same g1 v0 xs _ (Ints.of_own OG1.out (small3 HXL.out)) (Ints.of_own (own_below OV.out (Below.on B4.out (Below.on B5.out (Below.on B6.out B7.out)))) (small3 HXL.out))).mono ?_
    rintro e w9 ⟨rfl, m, hw⟩
    have B8 := Lib.hid (below_of_drew hw)
    clear hw m
    have HC0 : Hid (∀ w', Below w9.heap.size w9 w' → Box w' w5.heap.size [.int .i64 g, (.slice ra2 rows.length rc2), (.slice ma2 makes.length mc2)] ∧ Box w' w.heap.size [.int .i64 g, .slice a rows.length c, .slice b makes.length d]) := Lib.hid fun w' hb => ⟨(X2.out.on (Below.on B6.out (Below.on B7.out B8.out))).on hb, (P0.out.on (Below.on B1.out (Below.on B2.out (Below.on B3.out (Below.on B4.out (Below.on B5.out (Below.on B6.out (Below.on B7.out B8.out)))))))).on hb⟩
    go_wp2_with fail
    apply wp_region_H (Z := Option (Value × Value)) (S := fun k => k == 2 || k == 3 || k == 4) (C := fun z w' => Hid (Below w9.heap.size w9 w' ∧ ∀ r, z = some r → Cw w' r.1 r.2 rows makes)) [0, 1] none
    · kernel_rfl
    · kernel_rfl
    · kernel_rfl
    · exact ⟨rfl, rfl, trivial⟩
    · rfl
    · decide
    · exact Lib.hid ⟨(Below.refl _ _).drew, fun r hr => by cases hr⟩
    · intro z
      dsimp only [pickL, nthO]
      repeat (first | go_big_quiet_skip | (go_big_quiet_want; go_big_quiet_op; first | go_big_quiet_on | (refine ⟨_, fun _ _ => rfl, ?_⟩; go_big_quiet_on)))
      go_big_quiet_want
      go_big_quiet_op
      refine ⟨.agg #[.int .i64 g, (.slice ra2 rows.length rc2), (.slice ma2 makes.length mc2)], fun w' hw' => ?_, ?_⟩
      · have q := (HC0.out w' hw'.out.1).1
        have q0 := q.cell 0; have q1 := q.cell 1; have q2 := q.cell 2
        simp at q0 q1 q2
        simp [go_sem, q0, q1, q2]
      go_big_quiet_on
      repeat (first | go_big_quiet_skip | (go_big_quiet_want; go_big_quiet_op; first | go_big_quiet_on | (refine ⟨_, fun _ _ => rfl, ?_⟩; go_big_quiet_on)))
      go_big_quiet_want
      go_big_quiet_op
      refine ⟨.agg #[.int .i64 g, .slice a rows.length c, .slice b makes.length d], fun w' hw' => ?_, ?_⟩
      · have q := (HC0.out w' hw'.out.1).2
        have q0 := q.cell 0; have q1 := q.cell 1; have q2 := q.cell 2
        simp at q0 q1 q2
        simp [go_sem, q0, q1, q2]
      go_big_quiet_on
      exact wpQuiet_nil rfl
    · refine wpAnyH_call (i := 2) (d := some 69) 18 #[.agg #[.int .i64 g, .slice a rows.length c, .slice b makes.length d]] rfl (by kernel_rfl) rfl rfl (by kernel_rfl) (fun _ => by kernel_rfl) fun wa hc => ?_
      refine (toCl_any g a b c d rows makes _ (HA.out.on (Below.on (Below.on L1.out (Below.on B1.out (Below.on B2.out (Below.on B3.out (Below.on B4.out (Below.on B5.out (Below.on B6.out (Below.on B7.out B8.out)))))))) hc.out.1)) (HB.out.on (Below.on (Below.on L1.out (Below.on B1.out (Below.on B2.out (Below.on B3.out (Below.on B4.out (Below.on B5.out (Below.on B6.out (Below.on B7.out B8.out)))))))) hc.out.1)) s1 S2.out s3).mono ?_
      rintro e wb ⟨rv5, mv5, us5, rfl, o5, hb⟩
      refine ⟨_, rfl, some (rv5, mv5), Lib.hid ⟨Below.on hc.out.1 hb, fun r hr => by cases hr; exact OwnCl.cw o5 s1 S2.out s3⟩, ?_⟩
      clear o5 hb hc
      refine wpAnyH_call (i := 3) (d := some 70) 20 #[.agg #[.int .i64 g, (.slice ra2 rows.length rc2), (.slice ma2 makes.length mc2)], .agg #[.int .i64 g, rv5, mv5]] rfl (by kernel_rfl) rfl rfl (by kernel_rfl) (fun _ => by kernel_rfl) fun wc hc => ?_
      have k1 := OwnCl.cw ((O2.out.on (Below.on B5.out (Below.on B6.out (Below.on B7.out B8.out)))).on hc.out.1) s1 S2.out s3
      have k2 := hc.out.2 _ rfl
      refine (eqcl_any g (.slice ra2 rows.length rc2) (.slice ma2 makes.length mc2) rv5 mv5 rows makes _ k1.rows k1.makes k2.rows k2.makes).mono ?_
      rintro e wd ⟨rfl, hb⟩
      refine ⟨_, rfl, none, Lib.hid ⟨Below.on hc.out.1 hb, fun r hr => by cases hr⟩, ?_⟩
      refine wpAnyH_special (i := 4) (d := some 71) rfl (by kernel_rfl) rfl rfl (by kernel_rfl) fun wy hcy => ⟨.bool false, wy, none, .inl (by kernel_rfl), hcy, ?_⟩
      refine ⟨by kernel_rfl, fun w10 hz => ?_⟩
      have B9 := Lib.hid hz.out.1
      simp only [Act.put]
      clear HC0 hz
      have HC0 : Hid (∀ w', Below w10.heap.size w10 w' → Box w' w6.heap.size [(.slice ra3 tas.length rc3), .int .i64 taq, (.slice ma3 tat.length mc3)] ∧ Box w' (w.heap.size + 1) [.slice taa tas.length tac, .int .i64 taq, .slice tab tat.length tad]) := Lib.hid fun w' hb => ⟨(X3.out.on (Below.on B7.out (Below.on B8.out B9.out))).on hb, (P1.out.on (Below.on B1.out (Below.on B2.out (Below.on B3.out (Below.on B4.out (Below.on B5.out (Below.on B6.out (Below.on B7.out (Below.on B8.out B9.out))))))))).on hb⟩
      go_wp2_with fail
      apply wp_region_H (Z := Option (Value × Value)) (S := fun k => k == 2 || k == 3 || k == 4) (C := fun z w' => Hid (Below w10.heap.size w10 w' ∧ ∀ r, z = some r → Ints w' r.1 tas ∧ Ints w' r.2 tat)) [0, 1] none
      · kernel_rfl
      · kernel_rfl
      · kernel_rfl
      · exact ⟨rfl, rfl, trivial⟩
      · rfl
      · decide
      · exact Lib.hid ⟨(Below.refl _ _).drew, fun r hr => by cases hr⟩
      · intro z
        dsimp only [pickL, nthO]
        repeat (first | go_big_quiet_skip | (go_big_quiet_want; go_big_quiet_op; first | go_big_quiet_on | (refine ⟨_, fun _ _ => rfl, ?_⟩; go_big_quiet_on)))
        go_big_quiet_want
        go_big_quiet_op
        refine ⟨.agg #[(.slice ra3 tas.length rc3), .int .i64 taq, (.slice ma3 tat.length mc3)], fun w' hw' => ?_, ?_⟩
        · have q := (HC0.out w' hw'.out.1).1
          have q0 := q.cell 0; have q1 := q.cell 1; have q2 := q.cell 2
          simp at q0 q1 q2
          simp [go_sem, q0, q1, q2]
        go_big_quiet_on
        repeat (first | go_big_quiet_skip | (go_big_quiet_want; go_big_quiet_op; first | go_big_quiet_on | (refine ⟨_, fun _ _ => rfl, ?_⟩; go_big_quiet_on)))
        go_big_quiet_want
        go_big_quiet_op
        refine ⟨.agg #[.slice taa tas.length tac, .int .i64 taq, .slice tab tat.length tad], fun w' hw' => ?_, ?_⟩
        · have q := (HC0.out w' hw'.out.1).2
          have q0 := q.cell 0; have q1 := q.cell 1; have q2 := q.cell 2
          simp at q0 q1 q2
          simp [go_sem, q0, q1, q2]
        go_big_quiet_on
        exact wpQuiet_nil rfl
      · refine wpAnyH_call (i := 2) (d := some 74) 42 #[.agg #[.slice taa tas.length tac, .int .i64 taq, .slice tab tat.length tad]] rfl (by kernel_rfl) rfl rfl (by kernel_rfl) (fun _ => by kernel_rfl) fun wa hc => ?_
        refine (toW_any taq taa tab tac tad tas tat _ (Htas.out.on (Below.on (Below.on L1.out (Below.on B1.out (Below.on B2.out (Below.on B3.out (Below.on B4.out (Below.on B5.out (Below.on B6.out (Below.on B7.out (Below.on B8.out B9.out))))))))) hc.out.1)) (Htat.out.on (Below.on (Below.on L1.out (Below.on B1.out (Below.on B2.out (Below.on B3.out (Below.on B4.out (Below.on B5.out (Below.on B6.out (Below.on B7.out (Below.on B8.out B9.out))))))))) hc.out.1)) tas1 tas2).mono ?_
        rintro e wb ⟨sv6, tv6, rfl, o6, hb⟩
        refine ⟨_, rfl, some (sv6, tv6), Lib.hid ⟨Below.on hc.out.1 hb, fun r hr => by cases hr; exact ⟨Ints.of_own o6.s (small tas1), Ints.of_own o6.t (small tas2)⟩⟩, ?_⟩
        clear o6 hb hc
        refine wpAnyH_call (i := 3) (d := some 75) 37 #[.agg #[(.slice ra3 tas.length rc3), .int .i64 taq, (.slice ma3 tat.length mc3)], .agg #[sv6, .int .i64 taq, tv6]] rfl (by kernel_rfl) rfl rfl (by kernel_rfl) (fun _ => by kernel_rfl) fun wc hc => ?_
        have k1 := (O3.out.on (Below.on B6.out (Below.on B7.out (Below.on B8.out B9.out)))).on hc.out.1
        have k2 := hc.out.2 _ rfl
        refine (eqw_any taq (.slice ra3 tas.length rc3) (.slice ma3 tat.length mc3) sv6 tv6 tas tat _ (Ints.of_own k1.s (small tas1)) (Ints.of_own k1.t (small tas2)) k2.1 k2.2).mono ?_
        rintro e wd ⟨rfl, hb⟩
        refine ⟨_, rfl, none, Lib.hid ⟨Below.on hc.out.1 hb, fun r hr => by cases hr⟩, ?_⟩
        refine wpAnyH_special (i := 4) (d := some 76) rfl (by kernel_rfl) rfl rfl (by kernel_rfl) fun wy hcy => ⟨.bool false, wy, none, .inl (by kernel_rfl), hcy, ?_⟩
        refine ⟨by kernel_rfl, fun w11 hz => ?_⟩
        have B10 := Lib.hid hz.out.1
        simp only [Act.put]
        clear HC0 hz
        have HC0 : Hid (∀ w', Below w11.heap.size w11 w' → Box w' w7.heap.size [(.slice ra4 tbs.length rc4), .int .i64 tbq, (.slice ma4 tbt.length mc4)] ∧ Box w' (w.heap.size + 1 + 1) [.slice tba tbs.length tbc, .int .i64 tbq, .slice tbb tbt.length tbd]) := Lib.hid fun w' hb => ⟨(X4.out.on (Below.on B8.out (Below.on B9.out B10.out))).on hb, (P2.out.on (Below.on B1.out (Below.on B2.out (Below.on B3.out (Below.on B4.out (Below.on B5.out (Below.on B6.out (Below.on B7.out (Below.on B8.out (Below.on B9.out B10.out)))))))))).on hb⟩
        go_wp2_with fail
        apply wp_region_H (Z := Option (Value × Value)) (S := fun k => k == 2 || k == 3 || k == 4) (C := fun z w' => Hid (Below w11.heap.size w11 w' ∧ ∀ r, z = some r → Ints w' r.1 tbs ∧ Ints w' r.2 tbt)) [0, 1] none
        · kernel_rfl
        · kernel_rfl
        · kernel_rfl
        · exact ⟨rfl, rfl, trivial⟩
        · rfl
        · decide
        · exact Lib.hid ⟨(Below.refl _ _).drew, fun r hr => by cases hr⟩
        · intro z
          dsimp only [pickL, nthO]
          repeat (first | go_big_quiet_skip | (go_big_quiet_want; go_big_quiet_op; first | go_big_quiet_on | (refine ⟨_, fun _ _ => rfl, ?_⟩; go_big_quiet_on)))
          go_big_quiet_want
          go_big_quiet_op
          refine ⟨.agg #[(.slice ra4 tbs.length rc4), .int .i64 tbq, (.slice ma4 tbt.length mc4)], fun w' hw' => ?_, ?_⟩
          · have q := (HC0.out w' hw'.out.1).1
            have q0 := q.cell 0; have q1 := q.cell 1; have q2 := q.cell 2
            simp at q0 q1 q2
            simp [go_sem, q0, q1, q2]
          go_big_quiet_on
          repeat (first | go_big_quiet_skip | (go_big_quiet_want; go_big_quiet_op; first | go_big_quiet_on | (refine ⟨_, fun _ _ => rfl, ?_⟩; go_big_quiet_on)))
          go_big_quiet_want
          go_big_quiet_op
          refine ⟨.agg #[.slice tba tbs.length tbc, .int .i64 tbq, .slice tbb tbt.length tbd], fun w' hw' => ?_, ?_⟩
          · have q := (HC0.out w' hw'.out.1).2
            have q0 := q.cell 0; have q1 := q.cell 1; have q2 := q.cell 2
            simp at q0 q1 q2
            simp [go_sem, q0, q1, q2]
          go_big_quiet_on
          exact wpQuiet_nil rfl
        · refine wpAnyH_call (i := 2) (d := some 79) 42 #[.agg #[.slice tba tbs.length tbc, .int .i64 tbq, .slice tbb tbt.length tbd]] rfl (by kernel_rfl) rfl rfl (by kernel_rfl) (fun _ => by kernel_rfl) fun wa hc => ?_
          refine (toW_any tbq tba tbb tbc tbd tbs tbt _ (Htbs.out.on (Below.on (Below.on L1.out (Below.on B1.out (Below.on B2.out (Below.on B3.out (Below.on B4.out (Below.on B5.out (Below.on B6.out (Below.on B7.out (Below.on B8.out (Below.on B9.out B10.out)))))))))) hc.out.1)) (Htbt.out.on (Below.on (Below.on L1.out (Below.on B1.out (Below.on B2.out (Below.on B3.out (Below.on B4.out (Below.on B5.out (Below.on B6.out (Below.on B7.out (Below.on B8.out (Below.on B9.out B10.out)))))))))) hc.out.1)) tbs1 tbs2).mono ?_
          rintro e wb ⟨sv7, tv7, rfl, o7, hb⟩
          refine ⟨_, rfl, some (sv7, tv7), Lib.hid ⟨Below.on hc.out.1 hb, fun r hr => by cases hr; exact ⟨Ints.of_own o7.s (small tbs1), Ints.of_own o7.t (small tbs2)⟩⟩, ?_⟩
          clear o7 hb hc
          refine wpAnyH_call (i := 3) (d := some 80) 37 #[.agg #[(.slice ra4 tbs.length rc4), .int .i64 tbq, (.slice ma4 tbt.length mc4)], .agg #[sv7, .int .i64 tbq, tv7]] rfl (by kernel_rfl) rfl rfl (by kernel_rfl) (fun _ => by kernel_rfl) fun wc hc => ?_
          have k1 := (O4.out.on (Below.on B7.out (Below.on B8.out (Below.on B9.out B10.out)))).on hc.out.1
          have k2 := hc.out.2 _ rfl
          refine (eqw_any tbq (.slice ra4 tbs.length rc4) (.slice ma4 tbt.length mc4) sv7 tv7 tbs tbt _ (Ints.of_own k1.s (small tbs1)) (Ints.of_own k1.t (small tbs2)) k2.1 k2.2).mono ?_
          rintro e wd ⟨rfl, hb⟩
          refine ⟨_, rfl, none, Lib.hid ⟨Below.on hc.out.1 hb, fun r hr => by cases hr⟩, ?_⟩
          refine wpAnyH_special (i := 4) (d := some 81) rfl (by kernel_rfl) rfl rfl (by kernel_rfl) fun wy hcy => ⟨.bool false, wy, none, .inl (by kernel_rfl), hcy, ?_⟩
          refine ⟨by kernel_rfl, fun w12 hz => ?_⟩
          have B11 := Lib.hid hz.out.1
          simp only [Act.put]
          clear HC0 hz
          have z2a : w4.heap.size ≤ w5.heap.size := (B4.out).size
          have z2b : w5.heap.size ≤ w12.heap.size := ((Below.on B5.out (Below.on B6.out (Below.on B7.out (Below.on B8.out (Below.on B9.out (Below.on B10.out B11.out))))))).size
          have z3a : w5.heap.size ≤ w6.heap.size := (B5.out).size
          have z3b : w6.heap.size ≤ w12.heap.size := ((Below.on B6.out (Below.on B7.out (Below.on B8.out (Below.on B9.out (Below.on B10.out B11.out)))))).size
          have z4a : w6.heap.size ≤ w7.heap.size := (B6.out).size
          have z4b : w7.heap.size ≤ w12.heap.size := ((Below.on B7.out (Below.on B8.out (Below.on B9.out (Below.on B10.out B11.out))))).size
          have y2 : w5.heap.size ≤ w5.heap.size := Nat.le_refl _
          have y3 : w6.heap.size ≤ w6.heap.size := Nat.le_refl _
          have z0 : w.heap.size < w4.heap.size := Nat.lt_of_lt_of_le P0.out.lt ((Below.on B1.out (Below.on B2.out B3.out))).size
          have VL := Lib.hid (show ∀ k, v0.ownBlock = some k → k < w4.heap.size from fun k hk => Nat.lt_of_lt_of_le ((OV.out).lt k hk).2 (Nat.le_refl _))
          have GB : w7.heap.size ≤ (w7.alloc (.cells #[(.slice ra4 tbs.length rc4), .int .i64 tbq, (.slice ma4 tbt.length mc4)] 50)).heap.size := by first | (simp; done) | (simp; have := Nat.le_refl w7.heap.size; omega)
          have q0 := (X2.out.on (Below.on B6.out (Below.on B7.out (Below.on B8.out (Below.on B9.out (Below.on B10.out B11.out)))))).cell 0
          have q1 := (X2.out.on (Below.on B6.out (Below.on B7.out (Below.on B8.out (Below.on B9.out (Below.on B10.out B11.out)))))).cell 1
          have q2 := (X2.out.on (Below.on B6.out (Below.on B7.out (Below.on B8.out (Below.on B9.out (Below.on B10.out B11.out)))))).cell 2
          simp at q0 q1 q2
          have hsz : w5.heap.size ≤ w12.heap.size := by omega
          go_wp2_with fail
          refine (markcl_any g (.slice ra2 rows.length rc2) (.slice ma2 makes.length mc2) us2 rows makes 1 w4.heap.size w5.heap.size _ (O2.out.on (Below.on B5.out (Below.on B6.out (Below.on B7.out (Below.on B8.out (Below.on B9.out (Below.on B10.out B11.out))))))) hsz (by omega) (fun j hj => by have := S2.out j hj; omega) (by omega) (by omega) (by omega)).mono ?_
          rintro e w13 ⟨rfl, out⟩
          obtain ⟨K0, hK0⟩ : ∃ K : Int, 1 + (cnt rows rows.length : Int) + makes.length = K := ⟨_, rfl⟩
          have K0a : 0 ≤ K0 := by omega
          have K0b : K0 ≤ 2100000 := by omega
          rw [hK0]
          clear hK0
          clear q0 q1 q2
          have ob := out.below (show w4.heap.size ≤ w12.heap.size by omega)
          have os13 := out.size
          have LM0 := Lib.hid ((Below.on L1.out (Below.on B1.out (Below.on B2.out (Below.on B3.out (Below.on B4.out (Below.on B5.out (Below.on B6.out (Below.on B7.out (Below.on B8.out (Below.on B9.out (Below.on B10.out B11.out))))))))))).trans (ob.mono (show w.heap.size ≤ w4.heap.size by omega)))
          have PM0_0 := Lib.hid ((P0.out.on (Below.on B1.out (Below.on B2.out (Below.on B3.out (Below.on B4.out (Below.on B5.out (Below.on B6.out (Below.on B7.out (Below.on B8.out (Below.on B9.out (Below.on B10.out B11.out))))))))))).low ob (Nat.lt_of_lt_of_le P0.out.lt (by have := ((Below.on B1.out (Below.on B2.out B3.out))).size; omega)))
          have PM0_1 := Lib.hid ((P1.out.on (Below.on B1.out (Below.on B2.out (Below.on B3.out (Below.on B4.out (Below.on B5.out (Below.on B6.out (Below.on B7.out (Below.on B8.out (Below.on B9.out (Below.on B10.out B11.out))))))))))).low ob (Nat.lt_of_lt_of_le P1.out.lt (by have := ((Below.on B1.out (Below.on B2.out B3.out))).size; omega)))
          have PM0_2 := Lib.hid ((P2.out.on (Below.on B1.out (Below.on B2.out (Below.on B3.out (Below.on B4.out (Below.on B5.out (Below.on B6.out (Below.on B7.out (Below.on B8.out (Below.on B9.out (Below.on B10.out B11.out))))))))))).low ob (Nat.lt_of_lt_of_le P2.out.lt (by have := ((Below.on B1.out (Below.on B2.out B3.out))).size; omega)))
          have VM0 := Lib.hid (out.low (own_below OV.out (Below.on B4.out (Below.on B5.out (Below.on B6.out (Below.on B7.out (Below.on B8.out (Below.on B9.out (Below.on B10.out B11.out)))))))) (fun k hk => by have := VL.out k hk; omega))
          have GM0 := Lib.hid (out.own (own_below OG1.out (Below.on B8.out (Below.on B9.out (Below.on B10.out B11.out)))) (by omega))
          have O3M0 := Lib.hid (OwnW.far out (O3.out.on (Below.on B6.out (Below.on B7.out (Below.on B8.out (Below.on B9.out (Below.on B10.out B11.out)))))) (by omega))
          have X3M0 := Lib.hid (out.box (X3.out.on (Below.on B7.out (Below.on B8.out (Below.on B9.out (Below.on B10.out B11.out))))) (by omega))
          have O4M0 := Lib.hid (OwnW.far out (O4.out.on (Below.on B7.out (Below.on B8.out (Below.on B9.out (Below.on B10.out B11.out))))) (by omega))
          have X4M0 := Lib.hid (out.box (X4.out.on (Below.on B8.out (Below.on B9.out (Below.on B10.out B11.out)))) (by omega))
          clear out ob hsz
          have q0 := X3M0.out.cell 0
          have q1 := X3M0.out.cell 1
          have q2 := X3M0.out.cell 2
          simp at q0 q1 q2
          have hsz : w6.heap.size ≤ w13.heap.size := by omega
          go_wp2_with fail
          refine (markw_any taq (.slice ra3 tas.length rc3) (.slice ma3 tat.length mc3) tas tat _ w5.heap.size w6.heap.size _ O3M0.out hsz (by omega) (by omega) (by omega) (by omega)).mono ?_
          rintro e w14 ⟨rfl, _, out⟩
          obtain ⟨K1, hK1⟩ : ∃ K : Int, K0 + (tas.length : Int) + tat.length = K := ⟨_, rfl⟩
          have K1a : 0 ≤ K1 := by omega
          have K1b : K1 ≤ 4300000 := by omega
          rw [hK1]
          clear hK1
          clear q0 q1 q2
          have ob := out.below (show w5.heap.size ≤ w13.heap.size by omega)
          have os14 := out.size
          have LM1 := Lib.hid (LM0.out.trans (ob.mono (show w.heap.size ≤ w5.heap.size by omega)))
          have PM1_0 := Lib.hid (PM0_0.out.low ob (Nat.lt_of_lt_of_le P0.out.lt (by have := ((Below.on B1.out (Below.on B2.out B3.out))).size; omega)))
          have PM1_1 := Lib.hid (PM0_1.out.low ob (Nat.lt_of_lt_of_le P1.out.lt (by have := ((Below.on B1.out (Below.on B2.out B3.out))).size; omega)))
          have PM1_2 := Lib.hid (PM0_2.out.low ob (Nat.lt_of_lt_of_le P2.out.lt (by have := ((Below.on B1.out (Below.on B2.out B3.out))).size; omega)))
          have VM1 := Lib.hid (out.low VM0.out (fun k hk => by have := VL.out k hk; omega))
          have GM1 := Lib.hid (out.own GM0.out (by omega))
          have O4M1 := Lib.hid (OwnW.far out O4M0.out (by omega))
          have X4M1 := Lib.hid (out.box X4M0.out (by omega))
          clear out ob hsz
          have q0 := X4M1.out.cell 0
          have q1 := X4M1.out.cell 1
          have q2 := X4M1.out.cell 2
          simp at q0 q1 q2
          have hsz : w7.heap.size ≤ w14.heap.size := by omega
          go_wp2_with fail
          refine (markw_any tbq (.slice ra4 tbs.length rc4) (.slice ma4 tbt.length mc4) tbs tbt _ w6.heap.size w7.heap.size _ O4M1.out hsz (by omega) (by omega) (by omega) (by omega)).mono ?_
          rintro e w15 ⟨rfl, _, out⟩
          obtain ⟨K2, hK2⟩ : ∃ K : Int, K1 + (tbs.length : Int) + tbt.length = K := ⟨_, rfl⟩
          have K2a : 0 ≤ K2 := by omega
          have K2b : K2 ≤ 6500000 := by omega
          rw [hK2]
          clear hK2
          clear q0 q1 q2
          have ob := out.below (show w6.heap.size ≤ w14.heap.size by omega)
          have os15 := out.size
          have LM2 := Lib.hid (LM1.out.trans (ob.mono (show w.heap.size ≤ w6.heap.size by omega)))
          have PM2_0 := Lib.hid (PM1_0.out.low ob (Nat.lt_of_lt_of_le P0.out.lt (by have := ((Below.on B1.out (Below.on B2.out B3.out))).size; omega)))
          have PM2_1 := Lib.hid (PM1_1.out.low ob (Nat.lt_of_lt_of_le P1.out.lt (by have := ((Below.on B1.out (Below.on B2.out B3.out))).size; omega)))
          have PM2_2 := Lib.hid (PM1_2.out.low ob (Nat.lt_of_lt_of_le P2.out.lt (by have := ((Below.on B1.out (Below.on B2.out B3.out))).size; omega)))
          have VM2 := Lib.hid (out.low VM1.out (fun k hk => by have := VL.out k hk; omega))
          have GM2 := Lib.hid (out.own GM1.out (by omega))
          clear out ob hsz
          go_wp2_with fail
          refine (eqs_same g1 v0 xs _ (Ints.of_own GM2.out (small3 HXL.out)) (Ints.of_own VM2.out (small3 HXL.out))).mono ?_
          rintro e w16 ⟨rfl, m, hw⟩
          have B15 := Lib.hid (below_of_drew hw)
          clear hw m
          have hxl := HXL.out
          go_wp2_with fail
          refine (markI_any g1 xs 1 ((w7.alloc (.cells #[(.slice ra4 tbs.length rc4), .int .i64 tbq, (.slice ma4 tbt.length mc4)] 50)).heap.size) _ (own_below GM2.out B15.out) (by omega) (by omega) (by omega)).mono ?_
          rintro e w17 ⟨rfl, og, gr⟩
          have out := Outside.of_grown (lo := (w7.alloc (.cells #[(.slice ra4 tbs.length rc4), .int .i64 tbq, (.slice ma4 tbt.length mc4)] 50)).heap.size) (hi := w16.heap.size) gr fun k hk => ⟨((own_below GM2.out B15.out).lt k hk).1, ((own_below GM2.out B15.out).lt k hk).2⟩
          clear gr
          have hsz : w15.heap.size ≤ w16.heap.size := (B15.out).size
          have hbs : (w7.alloc (.cells #[(.slice ra4 tbs.length rc4), .int .i64 tbq, (.slice ma4 tbt.length mc4)] 50)).heap.size ≤ w16.heap.size := by have h1 := X4.out.lt; have h2 := ((Below.on B8.out (Below.on B9.out (Below.on B10.out B11.out)))).size; simp; omega
          have ob := out.below hbs
          have LQ := Lib.hid ((Below.on LM2.out B15.out).trans (ob.mono (show w.heap.size ≤ (w7.alloc (.cells #[(.slice ra4 tbs.length rc4), .int .i64 tbq, (.slice ma4 tbt.length mc4)] 50)).heap.size by omega)))
          have PQ0 := Lib.hid ((PM2_0.out.on B15.out).low ob (Nat.lt_of_lt_of_le P0.out.lt (by have := ((Below.on B1.out (Below.on B2.out B3.out))).size; omega)))
          have PQ1 := Lib.hid ((PM2_1.out.on B15.out).low ob (Nat.lt_of_lt_of_le P1.out.lt (by have := ((Below.on B1.out (Below.on B2.out B3.out))).size; omega)))
          have PQ2 := Lib.hid ((PM2_2.out.on B15.out).low ob (Nat.lt_of_lt_of_le P2.out.lt (by have := ((Below.on B1.out (Below.on B2.out B3.out))).size; omega)))
          have VQ := Lib.hid (out.low (own_below VM2.out B15.out) (fun k hk => by have := VL.out k hk; omega))
          have GQ := Lib.hid og
          clear out ob og hsz hbs
          have hne : ((1 + (xs.length : Int)) != (1 + (xs.length : Int))) = false := by simp
          go_wp2_with fail
          refine (heldI_any g1 _ 1 _ (Ints.of_own GQ.out (by rw [markTo_len]; exact small3 HXL.out)) (by rw [markTo_len]; omega) (by omega) (by omega) (fun j hj => markTo_nth _ _ _ (Nat.le_refl _) j (by rwa [markTo_len] at hj))).mono ?_
          rintro e wh ⟨rfl, rfl⟩
          rw [markTo_len]
          have HC0 : Hid (∀ w', Below w17.heap.size w17 w' → Box w' w.heap.size [.int .i64 g, .slice a rows.length c, .slice b makes.length d] ∧ Box w' (w.heap.size + 1) [.slice taa tas.length tac, .int .i64 taq, .slice tab tat.length tad] ∧ Box w' (w.heap.size + 1 + 1) [.slice tba tbs.length tbc, .int .i64 tbq, .slice tbb tbt.length tbd]) := Lib.hid fun w' hb => ⟨PQ0.out.on hb, PQ1.out.on hb, PQ2.out.on hb⟩
          go_wp2_with fail
          apply wp_region_H (S := fun k => k == 1 || k == 3 || k == 5 || k == 6) (C := fun z w' => Hid (Zc w17 rows makes tas tat tbs tbt xs z w')) [0, 2, 4] []
          · kernel_rfl
          · kernel_rfl
          · kernel_rfl
          · exact ⟨rfl, rfl, rfl, trivial⟩
          · rfl
          · decide
          · exact Lib.hid (Below.refl _ _).drew
          · intro z
            dsimp only [pickL, nthO]
            repeat (first | go_big_quiet_skip | (go_big_quiet_want; go_big_quiet_op; first | go_big_quiet_on | (refine ⟨_, fun _ _ => rfl, ?_⟩; go_big_quiet_on)))
            go_big_quiet_want
            go_big_quiet_op
            refine ⟨.agg #[.int .i64 g, .slice a rows.length c, .slice b makes.length d], fun w' hw' => ?_, ?_⟩
            · have q := (HC0.out w' hw'.out.below).1
              have q0 := q.cell 0; have q1 := q.cell 1; have q2 := q.cell 2
              simp at q0 q1 q2
              simp [go_sem, q0, q1, q2]
            go_big_quiet_on
            repeat (first | go_big_quiet_skip | (go_big_quiet_want; go_big_quiet_op; first | go_big_quiet_on | (refine ⟨_, fun _ _ => rfl, ?_⟩; go_big_quiet_on)))
            go_big_quiet_want
            go_big_quiet_op
            refine ⟨.agg #[.slice taa tas.length tac, .int .i64 taq, .slice tab tat.length tad], fun w' hw' => ?_, ?_⟩
            · have q := (HC0.out w' hw'.out.below).2.1
              have q0 := q.cell 0; have q1 := q.cell 1; have q2 := q.cell 2
              simp at q0 q1 q2
              simp [go_sem, q0, q1, q2]
            go_big_quiet_on
            repeat (first | go_big_quiet_skip | (go_big_quiet_want; go_big_quiet_op; first | go_big_quiet_on | (refine ⟨_, fun _ _ => rfl, ?_⟩; go_big_quiet_on)))
            go_big_quiet_want
            go_big_quiet_op
            refine ⟨.agg #[.slice tba tbs.length tbc, .int .i64 tbq, .slice tbb tbt.length tbd], fun w' hw' => ?_, ?_⟩
            · have q := (HC0.out w' hw'.out.below).2.2
              have q0 := q.cell 0; have q1 := q.cell 1; have q2 := q.cell 2
              simp at q0 q1 q2
              simp [go_sem, q0, q1, q2]
            go_big_quiet_on
            exact wpQuiet_nil rfl
          · refine wpAnyH_call (i := 1) (d := some 117) 18 #[.agg #[.int .i64 g, .slice a rows.length c, .slice b makes.length d]] rfl (by kernel_rfl) rfl rfl (by kernel_rfl) (fun _ => by kernel_rfl) fun wa hc => ?_
            refine (toCl_any g a b c d rows makes _ (HA.out.on (Below.on LQ.out hc.out.below)) (HB.out.on (Below.on LQ.out hc.out.below)) s1 S2.out s3).mono ?_
            rintro e wb ⟨rv8, mv8, us8, rfl, o1, hb⟩
            refine ⟨_, rfl, [rv8, mv8], Lib.hid ⟨Below.on hc.out.below hb, OwnCl.cw o1 s1 S2.out s3⟩, ?_⟩
            clear o1 hb hc
            refine wpAnyH_call (i := 3) (d := some 119) 42 #[.agg #[.slice taa tas.length tac, .int .i64 taq, .slice tab tat.length tad]] rfl (by kernel_rfl) rfl rfl (by kernel_rfl) (fun _ => by kernel_rfl) fun wa hc => ?_
            refine (toW_any taq taa tab tac tad tas tat _ (Htas.out.on (Below.on LQ.out hc.out.below)) (Htat.out.on (Below.on LQ.out hc.out.below)) tas1 tas2).mono ?_
            rintro e wb ⟨sv80, tv80, rfl, o1, hb⟩
            refine ⟨_, rfl, [rv8, mv8, sv80, tv80], Lib.hid ⟨Below.on hc.out.below hb, hc.out.2.on hb, Ints.of_own o1.s (small tas1), Ints.of_own o1.t (small tas2)⟩, ?_⟩
            clear o1 hb hc
            refine wpAnyH_call (i := 5) (d := some 121) 42 #[.agg #[.slice tba tbs.length tbc, .int .i64 tbq, .slice tbb tbt.length tbd]] rfl (by kernel_rfl) rfl rfl (by kernel_rfl) (fun _ => by kernel_rfl) fun wa hc => ?_
            refine (toW_any tbq tba tbb tbc tbd tbs tbt _ (Htbs.out.on (Below.on LQ.out hc.out.below)) (Htbt.out.on (Below.on LQ.out hc.out.below)) tbs1 tbs2).mono ?_
            rintro e wb ⟨sv81, tv81, rfl, o1, hb⟩
            refine ⟨_, rfl, [rv8, mv8, sv80, tv80, sv81, tv81], Lib.hid ⟨Below.on hc.out.below hb, hc.out.2.1.on hb, hc.out.2.2.1.below hb, hc.out.2.2.2.below hb, Ints.of_own o1.s (small tbs1), Ints.of_own o1.t (small tbs2)⟩, ?_⟩
            clear o1 hb hc
            refine wpAnyH_call (i := 6) (d := some 122) 47 #[.agg #[.int .i64 g, rv8, mv8], .agg #[sv80, .int .i64 taq, tv80], .agg #[sv81, .int .i64 tbq, tv81]] rfl (by kernel_rfl) rfl rfl (by kernel_rfl) (fun _ => by kernel_rfl) fun wa hc => ?_
            refine (ifrom_any g rv8 mv8 sv80 taq tv80 sv81 tbq tv81 rows makes tas tat tbs tbt _ (HG.out.on (Below.on LQ.out hc.out.below)) hc.out.2.1 hc.out.2.2.1 hc.out.2.2.2.1 hc.out.2.2.2.2.1 hc.out.2.2.2.2.2).mono ?_
            rintro e wb ⟨g2, rfl, o0, hb⟩
            rw [HFB.out]
            rw [HXS.out] at o0
            refine ⟨_, rfl, [g2], Lib.hid ⟨Below.on hc.out.below hb, own_mono o0 hc.out.below.size⟩, ?_⟩
            clear hc o0 hb
            refine wpAnyH_take (i := 7) (d := some 115) (.tuple #[g2, .bool FB]) rfl (by kernel_rfl) rfl rfl (by kernel_rfl) (by kernel_rfl) (by kernel_rfl) (fun _ => by kernel_rfl) ?_
            refine wpAnyH_take (i := 8) (d := some 123) (g2) rfl (by kernel_rfl) rfl rfl (by kernel_rfl) (by kernel_rfl) (by kernel_rfl) (fun _ => by kernel_rfl) ?_
            refine wpAnyH_take (i := 9) (d := some 124) (.bool FB) rfl (by kernel_rfl) rfl rfl (by kernel_rfl) (by kernel_rfl) (by kernel_rfl) (fun _ => by kernel_rfl) ?_
            refine wpAnyH_take (i := 10) (d := some 18) (g2) rfl (by kernel_rfl) rfl rfl (by kernel_rfl) (by kernel_rfl) (by kernel_rfl) (fun _ => by kernel_rfl) ?_
            refine wpAnyH_take (i := 11) (d := some 19) (.bool FB) rfl (by kernel_rfl) rfl rfl (by kernel_rfl) (by kernel_rfl) (by kernel_rfl) (fun _ => by kernel_rfl) ?_
            refine ⟨by kernel_rfl, fun w18 hz => ?_⟩
            have B17 := Lib.hid (Zc.below hz.out)
            have OG2 := Lib.hid hz.out.2
            simp only [Act.put]
            clear HC0 hz
            go_wp2_with fail
            refine (eqs_same g2 v0 xs _ (Ints.of_own OG2.out (small3 HXL.out)) (Ints.of_own (own_below VQ.out B17.out) (small3 HXL.out))).mono ?_
            rintro e w19 ⟨rfl, m, hw⟩
            have B18 := Lib.hid (below_of_drew hw)
            clear hw m
            go_wp2_with fail
            refine (heldI_any g1 _ 1 _ (Ints.of_own (own_below GQ.out (Below.on B17.out B18.out)) (by rw [markTo_len]; exact small3 HXL.out)) (by rw [markTo_len]; omega) (by omega) (by omega) (fun j hj => markTo_nth _ _ _ (Nat.le_refl _) j (by rwa [markTo_len] at hj))).mono ?_
            rintro e wh ⟨rfl, rfl⟩
            rw [markTo_len]
            go_wp2
            go_ret
            exact ⟨rfl, (Below.on LQ.out (Below.on B17.out B18.out))⟩
end Go.Proofs.YtopjlbihhbjhnaaDoor
