/- The exact law of WordsOk, walked: spec's answer, impl's answer, and that both are the same; no argument is written to; the answer owns its memory. -/
import Derived.Test.YtopjlbihhbjhnaaDoorZs
import Derived.Test.YtopjlbihhbjhnaaDoorWokS
namespace Go.Proofs.YtopjlbihhbjhnaaDoor
open Go.RowKit

set_option maxHeartbeats 6400000 in
theorem xWordsOk_walk (g : Int) (a : Option Addr) (c : Nat) (rows : List (List Int)) (b : Option Addr) (d : Nat) (makes : List Int) (ta : Option Addr) (tc : Nat) (ts : List Int) (tq : Int) (tb : Option Addr) (td : Nat) (tt : List Int) (w : World) (G : Gr w) (ha : ArgSS w a rows) (hb : ArgI w b makes) (hn : rows.length ≤ maxLen) (hr : ∀ j, j < rows.length → (row rows j).length ≤ maxLen) (hm : makes.length ≤ maxLen) (hts : ArgI w ta ts) (mts : ts.length ≤ maxLen) (htt : ArgI w tb tt) (mtt : tt.length ≤ maxLen) :
    Calls Tryd.prog 9 #[.agg #[.int .i64 g, .slice a rows.length c, .slice b makes.length d], .agg #[.slice ta ts.length tc, .int .i64 tq, .slice tb tt.length td]] w fun e w' => e = .returned (.bool true) ∧ Below w.heap.size w w' := by
  have HG := Lib.hid G
  have HA := Lib.hid ha
  have HB := Lib.hid hb
  have HR := Lib.hid hr
  unfold maxLen at hn hm
  have Hts := Lib.hid hts
  have Htt := Lib.hid htt
  unfold maxLen at mts mtt
  clear ha hb hr G hts htt
  go_enter Tryd.func9, Tryd.ntmps9
  go_wp2_with fail
  refine (szcl_any g a b c d rows makes 1048576 _ ((HA.out.on (below_grow _ _)).on (below_grow _ _)) hn HR.out hm (by omega) (by omega)).mono ?_
  rintro e w1 ⟨r, rfl, hb, hres⟩
  obtain ⟨p0, p1, l1⟩ := boxes2 hb
  have P0 := Lib.hid p0
  have P1 := Lib.hid p1
  have L1 := Lib.hid l1
  clear hb l1 p0 p1
  rcases hres with rfl | ⟨r0, r1, s1, s2, s3, s4⟩
  · go_wp2
    go_ret
    exact ⟨rfl, L1.out⟩
  have S2 := Lib.hid s2
  clear s2
  have q0 := P1.out.cell 0
  have q1 := P1.out.cell 1
  have q2 := P1.out.cell 2
  simp at q0 q1 q2
  go_wp2_with fail
  refine (szw_any tq ta tb ts.length tc tt.length td _ _ mts mtt (by omega) (by omega)).mono ?_
  rintro e w2 ⟨tr, rfl, hb, hres⟩
  have B1 := Lib.hid hb
  clear hb q0 q1 q2
  rcases hres with rfl | ⟨tr0, tr1, ts1, ts2⟩
  · go_wp2
    go_ret
    exact ⟨rfl, (Below.on L1.out B1.out)⟩
  have HC0 : Hid (∀ w', Below w2.heap.size w2 w' → Box w' w.heap.size [.int .i64 g, .slice a rows.length c, .slice b makes.length d] ∧ Box w' (w.heap.size + 1) [.slice ta ts.length tc, .int .i64 tq, .slice tb tt.length td]) := Lib.hid fun w' hb => ⟨(P0.out.on B1.out).on hb, (P1.out.on B1.out).on hb⟩
  go_wp2_with fail
  apply wp_region_H (S := fun k => k == 1 || k == 3 || k == 4) (C := fun z w' => Hid (Zc w2 rows makes ts tt [] [] [] z w')) [0, 2] []
  · kernel_rfl
  · kernel_rfl
  · kernel_rfl
  · exact ⟨rfl, rfl, trivial⟩
  · rfl
  · decide
  · exact Lib.hid (Below.refl _ _).drew
  · intro z
    dsimp only [pickL, nthO]
    repeat (first | go_big_quiet_skip | (go_big_quiet_want; go_big_quiet_op; first | go_big_quiet_on | (refine ⟨_, fun _ _ => rfl, ?_⟩; go_big_quiet_on)))
    go_big_quiet_want
    go_big_quiet_op
    refine ⟨.agg #[.int .i64 g, .slice a rows.length c, .slice b makes.length d], fun w' hw' => ?_, ?_⟩
    · have q := (HC0.out w' hw'.out.below).1
      have q0 := q.cell 0; have q1 := q.cell 1; have q2 := q.cell 2
      simp at q0 q1 q2
      simp [go_sem, q0, q1, q2]
    go_big_quiet_on
    repeat (first | go_big_quiet_skip | (go_big_quiet_want; go_big_quiet_op; first | go_big_quiet_on | (refine ⟨_, fun _ _ => rfl, ?_⟩; go_big_quiet_on)))
    go_big_quiet_want
    go_big_quiet_op
    refine ⟨.agg #[.slice ta ts.length tc, .int .i64 tq, .slice tb tt.length td], fun w' hw' => ?_, ?_⟩
    · have q := (HC0.out w' hw'.out.below).2
      have q0 := q.cell 0; have q1 := q.cell 1; have q2 := q.cell 2
      simp at q0 q1 q2
      simp [go_sem, q0, q1, q2]
    go_big_quiet_on
    exact wpQuiet_nil rfl
  · refine wpAnyH_call (i := 1) (d := some 21) 18 #[.agg #[.int .i64 g, .slice a rows.length c, .slice b makes.length d]] rfl (by kernel_rfl) rfl rfl (by kernel_rfl) (fun _ => by kernel_rfl) fun wa hc => ?_
    refine (toCl_any g a b c d rows makes _ (HA.out.on (Below.on (Below.on L1.out B1.out) hc.out.below)) (HB.out.on (Below.on (Below.on L1.out B1.out) hc.out.below)) s1 S2.out s3).mono ?_
    rintro e wb ⟨rv1, mv1, us1, rfl, o1, hb⟩
    refine ⟨_, rfl, [rv1, mv1], Lib.hid ⟨Below.on hc.out.below hb, OwnCl.cw o1 s1 S2.out s3⟩, ?_⟩
    clear o1 hb hc
    refine wpAnyH_call (i := 3) (d := some 23) 42 #[.agg #[.slice ta ts.length tc, .int .i64 tq, .slice tb tt.length td]] rfl (by kernel_rfl) rfl rfl (by kernel_rfl) (fun _ => by kernel_rfl) fun wa hc => ?_
    refine (toW_any tq ta tb tc td ts tt _ (Hts.out.on (Below.on (Below.on L1.out B1.out) hc.out.below)) (Htt.out.on (Below.on (Below.on L1.out B1.out) hc.out.below)) ts1 ts2).mono ?_
    rintro e wb ⟨sv10, tv10, rfl, o1, hb⟩
    refine ⟨_, rfl, [rv1, mv1, sv10, tv10], Lib.hid ⟨Below.on hc.out.below hb, hc.out.2.on hb, Ints.of_own o1.s (small ts1), Ints.of_own o1.t (small ts2)⟩, ?_⟩
    clear o1 hb hc
    refine wpAnyH_call (i := 4) (d := some 24) 41 #[.agg #[.int .i64 g, rv1, mv1], .agg #[sv10, .int .i64 tq, tv10]] rfl (by kernel_rfl) rfl rfl (by kernel_rfl) (fun _ => by kernel_rfl) fun wa hc => ?_
    refine (swok_any g rv1 mv1 sv10 tq tv10 rows makes ts tt _ hc.out.2.1 hc.out.2.2.1 hc.out.2.2.2).mono ?_
    rintro e wb ⟨rfl, hb⟩
    refine ⟨_, rfl, [], Lib.hid (Below.on hc.out.below hb), ?_⟩
    refine wpAnyH_assign (i := 5) (d := some 6) _ rfl (by kernel_rfl) rfl rfl (by kernel_rfl) rfl ?_
    refine ⟨by kernel_rfl, fun w3 hz => ?_⟩
    have B2 := Lib.hid (Zc.below hz.out)
    simp only [Act.put, Act.eval]
    clear HC0 hz
    have q0 := (P0.out.on (Below.on B1.out B2.out)).cell 0
    have q1 := (P0.out.on (Below.on B1.out B2.out)).cell 1
    have q2 := (P0.out.on (Below.on B1.out B2.out)).cell 2
    simp at q0 q1 q2
    go_wp2_with fail
    refine (toCl_any g a b c d rows makes _ (HA.out.on (Below.on L1.out (Below.on B1.out B2.out))) (HB.out.on (Below.on L1.out (Below.on B1.out B2.out))) s1 S2.out s3).mono ?_
    rintro e w4 ⟨rv2, mv2, us2, rfl, o2, hb⟩
    have B3 := Lib.hid hb
    clear hb
    obtain ⟨⟨ra2, rc2, er2⟩, ma2, mc2, em2⟩ := o2.form
    subst er2 em2
    have O2 := Lib.hid o2
    clear o2 q0 q1 q2
    have q0 := (P1.out.on (Below.on B1.out (Below.on B2.out B3.out))).cell 0
    have q1 := (P1.out.on (Below.on B1.out (Below.on B2.out B3.out))).cell 1
    have q2 := (P1.out.on (Below.on B1.out (Below.on B2.out B3.out))).cell 2
    simp at q0 q1 q2
    have q3 := ((P1.out.on (Below.on B1.out (Below.on B2.out B3.out))).alloc (.cells #[.int .i64 g, (.slice ra2 rows.length rc2), (.slice ma2 makes.length mc2)] 35)).cell 0
    have q4 := ((P1.out.on (Below.on B1.out (Below.on B2.out B3.out))).alloc (.cells #[.int .i64 g, (.slice ra2 rows.length rc2), (.slice ma2 makes.length mc2)] 35)).cell 1
    have q5 := ((P1.out.on (Below.on B1.out (Below.on B2.out B3.out))).alloc (.cells #[.int .i64 g, (.slice ra2 rows.length rc2), (.slice ma2 makes.length mc2)] 35)).cell 2
    simp at q3 q4 q5
    go_wp2_with fail
    refine (toW_any tq ta tb tc td ts tt _ (Hts.out.on (Below.on (Below.on L1.out (Below.on B1.out (Below.on B2.out B3.out))) (below_grow _ _))) (Htt.out.on (Below.on (Below.on L1.out (Below.on B1.out (Below.on B2.out B3.out))) (below_grow _ _))) ts1 ts2).mono ?_
    rintro e w5 ⟨sv3, tv3, rfl, o3, hb⟩
    have B4 := Lib.hid (Below.on (below_grow w4 (.cells #[.int .i64 g, (.slice ra2 rows.length rc2), (.slice ma2 makes.length mc2)] 35)) hb)
    have X2 := Lib.hid ((Box.made w4 [.int .i64 g, (.slice ra2 rows.length rc2), (.slice ma2 makes.length mc2)] 35).on hb)
    clear hb
    obtain ⟨ra3, rc3, er3⟩ := Own.form o3.s
    obtain ⟨ma3, mc3, em3⟩ := Own.form o3.t
    subst er3 em3
    have O3 := Lib.hid (OwnW.lower (lo' := w4.heap.size) o3 (by simp))
    clear o3 q0 q1 q2 q3 q4 q5
    have ec0 := (X2.out.alloc (.cells #[(.slice ra3 ts.length rc3), .int .i64 tq, (.slice ma3 tt.length mc3)] 50)).cell 0
    have ec1 := (X2.out.alloc (.cells #[(.slice ra3 ts.length rc3), .int .i64 tq, (.slice ma3 tt.length mc3)] 50)).cell 1
    have ec2 := (X2.out.alloc (.cells #[(.slice ra3 ts.length rc3), .int .i64 tq, (.slice ma3 tt.length mc3)] 50)).cell 2
    simp at ec0 ec1 ec2
    go_wp2_with fail
    refine (iwok_any g (.slice ra2 rows.length rc2) (.slice ma2 makes.length mc2) (.slice ra3 ts.length rc3) tq (.slice ma3 tt.length mc3) rows makes ts tt _ (HG.out.on (Below.on (Below.on L1.out (Below.on B1.out (Below.on B2.out (Below.on B3.out B4.out)))) (below_grow _ _))) ((OwnCl.cw (O2.out.on B4.out) s1 S2.out s3).on (below_grow _ _)) ((Ints.of_own O3.out.s (small ts1)).below (below_grow _ _)) ((Ints.of_own O3.out.t (small ts2)).below (below_grow _ _))).mono ?_
    rintro e w6 ⟨rfl, hb⟩
    have B5 := Lib.hid (Below.on (below_grow w5 (.cells #[(.slice ra3 ts.length rc3), .int .i64 tq, (.slice ma3 tt.length mc3)] 50)) hb)
    have X3 := Lib.hid ((Box.made w5 [(.slice ra3 ts.length rc3), .int .i64 tq, (.slice ma3 tt.length mc3)] 50).on hb)
    clear hb
    clear ec0 ec1 ec2
    have hq := bne_self (wokB g rows makes ts tq tt)
    have HC0 : Hid (∀ w', Below w6.heap.size w6 w' → Box w' w4.heap.size [.int .i64 g, (.slice ra2 rows.length rc2), (.slice ma2 makes.length mc2)] ∧ Box w' w.heap.size [.int .i64 g, .slice a rows.length c, .slice b makes.length d]) := Lib.hid fun w' hb => ⟨(X2.out.on B5.out).on hb, (P0.out.on (Below.on B1.out (Below.on B2.out (Below.on B3.out (Below.on B4.out B5.out))))).on hb⟩
    go_wp2_with fail
    apply wp_region_H (Z := Option (Value × Value)) (S := fun k => k == 2 || k == 3 || k == 4) (C := fun z w' => Hid (Below w6.heap.size w6 w' ∧ ∀ r, z = some r → Cw w' r.1 r.2 rows makes)) [0, 1] none
    · kernel_rfl
    · kernel_rfl
    · kernel_rfl
    · exact ⟨rfl, rfl, trivial⟩
    · rfl
    · decide
    · exact Lib.hid ⟨(Below.refl _ _).drew, fun r hr => by cases hr⟩
    · intro z
      dsimp only [pickL, nthO]
      repeat (first | go_big_quiet_skip | (go_big_quiet_want; go_big_quiet_op; first | go_big_quiet_on | (refine ⟨_, fun _ _ => rfl, ?_⟩; go_big_quiet_on)))
      go_big_quiet_want
      go_big_quiet_op
      refine ⟨.agg #[.int .i64 g, (.slice ra2 rows.length rc2), (.slice ma2 makes.length mc2)], fun w' hw' => ?_, ?_⟩
      · have q := (HC0.out w' hw'.out.1).1
        have q0 := q.cell 0; have q1 := q.cell 1; have q2 := q.cell 2
        simp at q0 q1 q2
        simp [go_sem, q0, q1, q2]
      go_big_quiet_on
      repeat (first | go_big_quiet_skip | (go_big_quiet_want; go_big_quiet_op; first | go_big_quiet_on | (refine ⟨_, fun _ _ => rfl, ?_⟩; go_big_quiet_on)))
      go_big_quiet_want
      go_big_quiet_op
      refine ⟨.agg #[.int .i64 g, .slice a rows.length c, .slice b makes.length d], fun w' hw' => ?_, ?_⟩
      · have q := (HC0.out w' hw'.out.1).2
        have q0 := q.cell 0; have q1 := q.cell 1; have q2 := q.cell 2
        simp at q0 q1 q2
        simp [go_sem, q0, q1, q2]
      go_big_quiet_on
      exact wpQuiet_nil rfl
    · refine wpAnyH_call (i := 2) (d := some 37) 18 #[.agg #[.int .i64 g, .slice a rows.length c, .slice b makes.length d]] rfl (by kernel_rfl) rfl rfl (by kernel_rfl) (fun _ => by kernel_rfl) fun wa hc => ?_
      refine (toCl_any g a b c d rows makes _ (HA.out.on (Below.on (Below.on L1.out (Below.on B1.out (Below.on B2.out (Below.on B3.out (Below.on B4.out B5.out))))) hc.out.1)) (HB.out.on (Below.on (Below.on L1.out (Below.on B1.out (Below.on B2.out (Below.on B3.out (Below.on B4.out B5.out))))) hc.out.1)) s1 S2.out s3).mono ?_
      rintro e wb ⟨rv4, mv4, us4, rfl, o4, hb⟩
      refine ⟨_, rfl, some (rv4, mv4), Lib.hid ⟨Below.on hc.out.1 hb, fun r hr => by cases hr; exact OwnCl.cw o4 s1 S2.out s3⟩, ?_⟩
      clear o4 hb hc
      refine wpAnyH_call (i := 3) (d := some 38) 20 #[.agg #[.int .i64 g, (.slice ra2 rows.length rc2), (.slice ma2 makes.length mc2)], .agg #[.int .i64 g, rv4, mv4]] rfl (by kernel_rfl) rfl rfl (by kernel_rfl) (fun _ => by kernel_rfl) fun wc hc => ?_
      have k1 := OwnCl.cw ((O2.out.on (Below.on B4.out B5.out)).on hc.out.1) s1 S2.out s3
      have k2 := hc.out.2 _ rfl
      refine (eqcl_any g (.slice ra2 rows.length rc2) (.slice ma2 makes.length mc2) rv4 mv4 rows makes _ k1.rows k1.makes k2.rows k2.makes).mono ?_
      rintro e wd ⟨rfl, hb⟩
      refine ⟨_, rfl, none, Lib.hid ⟨Below.on hc.out.1 hb, fun r hr => by cases hr⟩, ?_⟩
      refine wpAnyH_special (i := 4) (d := some 39) rfl (by kernel_rfl) rfl rfl (by kernel_rfl) fun wy hcy => ⟨.bool false, wy, none, .inl (by kernel_rfl), hcy, ?_⟩
      refine ⟨by kernel_rfl, fun w7 hz => ?_⟩
      have B6 := Lib.hid hz.out.1
      simp only [Act.put]
      clear HC0 hz
      have HC0 : Hid (∀ w', Below w7.heap.size w7 w' → Box w' w5.heap.size [(.slice ra3 ts.length rc3), .int .i64 tq, (.slice ma3 tt.length mc3)] ∧ Box w' (w.heap.size + 1) [.slice ta ts.length tc, .int .i64 tq, .slice tb tt.length td]) := Lib.hid fun w' hb => ⟨(X3.out.on B6.out).on hb, (P1.out.on (Below.on B1.out (Below.on B2.out (Below.on B3.out (Below.on B4.out (Below.on B5.out B6.out)))))).on hb⟩
      go_wp2_with fail
      apply wp_region_H (Z := Option (Value × Value)) (S := fun k => k == 2 || k == 3 || k == 4) (C := fun z w' => Hid (Below w7.heap.size w7 w' ∧ ∀ r, z = some r → Ints w' r.1 ts ∧ Ints w' r.2 tt)) [0, 1] none
      · kernel_rfl
      · kernel_rfl
      · kernel_rfl
      · exact ⟨rfl, rfl, trivial⟩
      · rfl
      · decide
      · exact Lib.hid ⟨(Below.refl _ _).drew, fun r hr => by cases hr⟩
      · intro z
        dsimp only [pickL, nthO]
        repeat (first | go_big_quiet_skip | (go_big_quiet_want; go_big_quiet_op; first | go_big_quiet_on | (refine ⟨_, fun _ _ => rfl, ?_⟩; go_big_quiet_on)))
        go_big_quiet_want
        go_big_quiet_op
        refine ⟨.agg #[(.slice ra3 ts.length rc3), .int .i64 tq, (.slice ma3 tt.length mc3)], fun w' hw' => ?_, ?_⟩
        · have q := (HC0.out w' hw'.out.1).1
          have q0 := q.cell 0; have q1 := q.cell 1; have q2 := q.cell 2
          simp at q0 q1 q2
          simp [go_sem, q0, q1, q2]
        go_big_quiet_on
        repeat (first | go_big_quiet_skip | (go_big_quiet_want; go_big_quiet_op; first | go_big_quiet_on | (refine ⟨_, fun _ _ => rfl, ?_⟩; go_big_quiet_on)))
        go_big_quiet_want
        go_big_quiet_op
        refine ⟨.agg #[.slice ta ts.length tc, .int .i64 tq, .slice tb tt.length td], fun w' hw' => ?_, ?_⟩
        · have q := (HC0.out w' hw'.out.1).2
          have q0 := q.cell 0; have q1 := q.cell 1; have q2 := q.cell 2
          simp at q0 q1 q2
          simp [go_sem, q0, q1, q2]
        go_big_quiet_on
        exact wpQuiet_nil rfl
      · refine wpAnyH_call (i := 2) (d := some 42) 42 #[.agg #[.slice ta ts.length tc, .int .i64 tq, .slice tb tt.length td]] rfl (by kernel_rfl) rfl rfl (by kernel_rfl) (fun _ => by kernel_rfl) fun wa hc => ?_
        refine (toW_any tq ta tb tc td ts tt _ (Hts.out.on (Below.on (Below.on L1.out (Below.on B1.out (Below.on B2.out (Below.on B3.out (Below.on B4.out (Below.on B5.out B6.out)))))) hc.out.1)) (Htt.out.on (Below.on (Below.on L1.out (Below.on B1.out (Below.on B2.out (Below.on B3.out (Below.on B4.out (Below.on B5.out B6.out)))))) hc.out.1)) ts1 ts2).mono ?_
        rintro e wb ⟨sv5, tv5, rfl, o5, hb⟩
        refine ⟨_, rfl, some (sv5, tv5), Lib.hid ⟨Below.on hc.out.1 hb, fun r hr => by cases hr; exact ⟨Ints.of_own o5.s (small ts1), Ints.of_own o5.t (small ts2)⟩⟩, ?_⟩
        clear o5 hb hc
        refine wpAnyH_call (i := 3) (d := some 43) 37 #[.agg #[(.slice ra3 ts.length rc3), .int .i64 tq, (.slice ma3 tt.length mc3)], .agg #[sv5, .int .i64 tq, tv5]] rfl (by kernel_rfl) rfl rfl (by kernel_rfl) (fun _ => by kernel_rfl) fun wc hc => ?_
        have k1 := (O3.out.on (Below.on B5.out B6.out)).on hc.out.1
        have k2 := hc.out.2 _ rfl
        refine (eqw_any tq (.slice ra3 ts.length rc3) (.slice ma3 tt.length mc3) sv5 tv5 ts tt _ (Ints.of_own k1.s (small ts1)) (Ints.of_own k1.t (small ts2)) k2.1 k2.2).mono ?_
        rintro e wd ⟨rfl, hb⟩
        refine ⟨_, rfl, none, Lib.hid ⟨Below.on hc.out.1 hb, fun r hr => by cases hr⟩, ?_⟩
        refine wpAnyH_special (i := 4) (d := some 44) rfl (by kernel_rfl) rfl rfl (by kernel_rfl) fun wy hcy => ⟨.bool false, wy, none, .inl (by kernel_rfl), hcy, ?_⟩
        refine ⟨by kernel_rfl, fun w8 hz => ?_⟩
        have B7 := Lib.hid hz.out.1
        simp only [Act.put]
        clear HC0 hz
        go_wp2
        go_ret
        exact ⟨rfl, (Below.on L1.out (Below.on B1.out (Below.on B2.out (Below.on B3.out (Below.on B4.out (Below.on B5.out (Below.on B6.out B7.out)))))))⟩
end Go.Proofs.YtopjlbihhbjhnaaDoor
