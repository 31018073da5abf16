/- The exact law of RowsMake, walked: spec's answer, impl's answer, and that both are the same; no argument is written to; the answer owns its memory. -/
import Derived.Test.YtopjlbihhbjhnaaDoorMark
import Derived.Test.YtopjlbihhbjhnaaDoorMkS
namespace Go.Proofs.YtopjlbihhbjhnaaDoor
open Go.RowKit

set_option maxHeartbeats 6400000 in
theorem xRowsMake_walk (g : Int) (a : Option Addr) (c : Nat) (rows : List (List Int)) (b : Option Addr) (d : Nat) (makes : List Int) (esa : Option Addr) (esc : Nat) (es : List Int) (w : World) (G : Gr w) (ha : ArgSS w a rows) (hb : ArgI w b makes) (hn : rows.length ≤ maxLen) (hr : ∀ j, j < rows.length → (row rows j).length ≤ maxLen) (hm : makes.length ≤ maxLen) (hes : ArgI w esa es) (mes : es.length ≤ maxLen) :
    Calls Tryd.prog 5 #[.agg #[.int .i64 g, .slice a rows.length c, .slice b makes.length d], .slice esa es.length esc] w fun e w' => e = .returned (.bool true) ∧ Below w.heap.size w w' := by
  have HG := Lib.hid G
  have HA := Lib.hid ha
  have HB := Lib.hid hb
  have HR := Lib.hid hr
  obtain ⟨xs, hxs⟩ : ∃ xs, rmk g rows makes es = xs := ⟨_, rfl⟩
  have HXL : Hid (xs.length ≤ 1000) := Lib.hid (by rw [← hxs]; exact Nat.le_trans (rmk_len _ _ _ _) (by omega))
  have HXS := Lib.hid hxs
  clear hxs
  unfold maxLen at hn hm
  have Hes := Lib.hid hes
  unfold maxLen at mes
  clear ha hb hr G hes
  by_cases ces : es.length ≤ 1048576
  case neg =>
    go_enter Tryd.func5, Tryd.ntmps5
    go_wp2
    go_ret
    exact ⟨rfl, (below_grow _ _)⟩
  go_enter Tryd.func5, Tryd.ntmps5
  go_wp2_with fail
  refine (szcl_any g a b c d rows makes 1048576 _ (HA.out.on (below_grow _ _)) hn HR.out hm (by omega) (by omega)).mono ?_
  rintro e w1 ⟨r, rfl, hb, hres⟩
  obtain ⟨p0, l1⟩ := boxes1 hb
  have P0 := Lib.hid p0
  have L1 := Lib.hid l1
  clear hb l1 p0
  rcases hres with rfl | ⟨r0, r1, s1, s2, s3, s4⟩
  · go_wp2
    go_ret
    exact ⟨rfl, L1.out⟩
  have S2 := Lib.hid s2
  clear s2
  have q0 := P0.out.cell 0
  have q1 := P0.out.cell 1
  have q2 := P0.out.cell 2
  simp at q0 q1 q2
  go_wp2_with fail
  refine (toCl_any g a b c d rows makes _ (HA.out.on L1.out) (HB.out.on L1.out) s1 S2.out s3).mono ?_
  rintro e w2 ⟨rv1, mv1, us1, rfl, o1, hb⟩
  have B1 := Lib.hid hb
  clear hb
  obtain ⟨⟨ra1, rc1, er1⟩, ma1, mc1, em1⟩ := o1.form
  subst er1 em1
  have O1 := Lib.hid o1
  clear o1 q0 q1 q2
  go_wp2_with fail
  refine (toI_any esa esc es _ (Hes.out.on (Below.on L1.out B1.out)) ces).mono ?_
  rintro e w3 ⟨iv2, rfl, o2, hb⟩
  have B2 := Lib.hid hb
  clear hb
  have O2 := Lib.hid o2
  clear o2
  go_wp2_with fail
  refine (srmk_any g (.slice ra1 rows.length rc1) (.slice ma1 makes.length mc1) iv2 rows makes es _ (OwnCl.cw (O1.out.on B2.out) s1 S2.out s3) (Ints.of_own O2.out (small ces))).mono ?_
  rintro e w4 ⟨v0, rfl, o0, hb⟩
  have B3 := Lib.hid hb
  clear hb
  rw [HXS.out] at o0
  have OV := Lib.hid o0
  clear o0
  have q0 := (P0.out.on (Below.on B1.out (Below.on B2.out B3.out))).cell 0
  have q1 := (P0.out.on (Below.on B1.out (Below.on B2.out B3.out))).cell 1
  have q2 := (P0.out.on (Below.on B1.out (Below.on B2.out B3.out))).cell 2
  simp at q0 q1 q2
  go_wp2_with fail
  refine (toCl_any g a b c d rows makes _ (HA.out.on (Below.on L1.out (Below.on B1.out (Below.on B2.out B3.out)))) (HB.out.on (Below.on L1.out (Below.on B1.out (Below.on B2.out B3.out)))) s1 S2.out s3).mono ?_
  rintro e w5 ⟨rv3, mv3, us3, rfl, o3, hb⟩
  have B4 := Lib.hid hb
  clear hb
  obtain ⟨⟨ra3, rc3, er3⟩, ma3, mc3, em3⟩ := o3.form
  subst er3 em3
  have O3 := Lib.hid o3
  clear o3 q0 q1 q2
  go_wp2_with fail
  refine (toI_any esa esc es _ (Hes.out.on (Below.on (Below.on L1.out (Below.on B1.out (Below.on B2.out (Below.on B3.out B4.out)))) (below_grow _ _))) ces).mono ?_
  rintro e w6 ⟨iv4, rfl, o4, hb⟩
  have B5 := Lib.hid (Below.on (below_grow w5 (.cells #[.int .i64 g, (.slice ra3 rows.length rc3), (.slice ma3 makes.length mc3)] 35)) hb)
  have X3 := Lib.hid ((Box.made w5 [.int .i64 g, (.slice ra3 rows.length rc3), (.slice ma3 makes.length mc3)] 35).on hb)
  clear hb
  have O4 := Lib.hid (own_mono (B' := w5.heap.size) o4 (by simp))
  clear o4
  have ec0 := X3.out.cell 0
  have ec1 := X3.out.cell 1
  have ec2 := X3.out.cell 2
  simp at ec0 ec1 ec2
  go_wp2_with fail
  refine (irmk_any g (.slice ra3 rows.length rc3) (.slice ma3 makes.length mc3) iv4 rows makes es _ (HG.out.on (Below.on L1.out (Below.on B1.out (Below.on B2.out (Below.on B3.out (Below.on B4.out B5.out)))))) (OwnCl.cw (O3.out.on B5.out) s1 S2.out s3) (Ints.of_own O4.out (small ces))).mono ?_
  rintro e w7 ⟨g1, rfl, o0, hb⟩
  have B6 := Lib.hid hb
  clear hb
  rw [HXS.out] at o0
  have OG1 := Lib.hid o0
  clear o0
  clear ec0 ec1 ec2
  go_wp2_with fail
  refine (eqs_same g1 v0 xs _ (Ints.of_own OG1.out (small3 HXL.out)) (Ints.of_own (own_below OV.out (Below.on B4.out (Below.on B5.out B6.out))) (small3 HXL.out))).mono ?_
  rintro e w8 ⟨rfl, m, hw⟩
  have B7 := Lib.hid (below_of_drew hw)
  clear hw m
  have HC0 : Hid (∀ w', Below w8.heap.size w8 w' → Box w' w5.heap.size [.int .i64 g, (.slice ra3 rows.length rc3), (.slice ma3 makes.length mc3)] ∧ Box w' w.heap.size [.int .i64 g, .slice a rows.length c, .slice b makes.length d]) := Lib.hid fun w' hb => ⟨(X3.out.on (Below.on B6.out B7.out)).on hb, (P0.out.on (Below.on B1.out (Below.on B2.out (Below.on B3.out (Below.on B4.out (Below.on B5.out (Below.on B6.out B7.out))))))).on hb⟩
  go_wp2_with fail
  apply wp_region_H (Z := Option (Value × Value)) (S := fun k => k == 2 || k == 3 || k == 4) (C := fun z w' => Hid (Below w8.heap.size w8 w' ∧ ∀ r, z = some r → Cw w' r.1 r.2 rows makes)) [0, 1] none
  · kernel_rfl
  · kernel_rfl
  · kernel_rfl
  · exact ⟨rfl, rfl, trivial⟩
  · rfl
  · decide
  · exact Lib.hid ⟨(Below.refl _ _).drew, fun r hr => by cases hr⟩
  · intro z
    dsimp only [pickL, nthO]
    repeat (first | go_big_quiet_skip | (go_big_quiet_want; go_big_quiet_op; first | go_big_quiet_on | (refine ⟨_, fun _ _ => rfl, ?_⟩; go_big_quiet_on)))
    go_big_quiet_want
    go_big_quiet_op
    refine ⟨.agg #[.int .i64 g, (.slice ra3 rows.length rc3), (.slice ma3 makes.length mc3)], fun w' hw' => ?_, ?_⟩
    · have q := (HC0.out w' hw'.out.1).1
      have q0 := q.cell 0; have q1 := q.cell 1; have q2 := q.cell 2
      simp at q0 q1 q2
      simp [go_sem, q0, q1, q2]
    go_big_quiet_on
    repeat (first | go_big_quiet_skip | (go_big_quiet_want; go_big_quiet_op; first | go_big_quiet_on | (refine ⟨_, fun _ _ => rfl, ?_⟩; go_big_quiet_on)))
    go_big_quiet_want
    go_big_quiet_op
    refine ⟨.agg #[.int .i64 g, .slice a rows.length c, .slice b makes.length d], fun w' hw' => ?_, ?_⟩
    · have q := (HC0.out w' hw'.out.1).2
      have q0 := q.cell 0; have q1 := q.cell 1; have q2 := q.cell 2
      simp at q0 q1 q2
      simp [go_sem, q0, q1, q2]
    go_big_quiet_on
    exact wpQuiet_nil rfl
  · refine wpAnyH_call (i := 2) (d := some 40) 18 #[.agg #[.int .i64 g, .slice a rows.length c, .slice b makes.length d]] rfl (by kernel_rfl) rfl rfl (by kernel_rfl) (fun _ => by kernel_rfl) fun wa hc => ?_
    refine (toCl_any g a b c d rows makes _ (HA.out.on (Below.on (Below.on L1.out (Below.on B1.out (Below.on B2.out (Below.on B3.out (Below.on B4.out (Below.on B5.out (Below.on B6.out B7.out))))))) hc.out.1)) (HB.out.on (Below.on (Below.on L1.out (Below.on B1.out (Below.on B2.out (Below.on B3.out (Below.on B4.out (Below.on B5.out (Below.on B6.out B7.out))))))) hc.out.1)) s1 S2.out s3).mono ?_
    rintro e wb ⟨rv5, mv5, us5, rfl, o5, hb⟩
    refine ⟨_, rfl, some (rv5, mv5), Lib.hid ⟨Below.on hc.out.1 hb, fun r hr => by cases hr; exact OwnCl.cw o5 s1 S2.out s3⟩, ?_⟩
    clear o5 hb hc
    refine wpAnyH_call (i := 3) (d := some 41) 20 #[.agg #[.int .i64 g, (.slice ra3 rows.length rc3), (.slice ma3 makes.length mc3)], .agg #[.int .i64 g, rv5, mv5]] rfl (by kernel_rfl) rfl rfl (by kernel_rfl) (fun _ => by kernel_rfl) fun wc hc => ?_
    have k1 := OwnCl.cw ((O3.out.on (Below.on B5.out (Below.on B6.out B7.out))).on hc.out.1) s1 S2.out s3
    have k2 := hc.out.2 _ rfl
    refine (eqcl_any g (.slice ra3 rows.length rc3) (.slice ma3 makes.length mc3) rv5 mv5 rows makes _ k1.rows k1.makes k2.rows k2.makes).mono ?_
    rintro e wd ⟨rfl, hb⟩
    refine ⟨_, rfl, none, Lib.hid ⟨Below.on hc.out.1 hb, fun r hr => by cases hr⟩, ?_⟩
    refine wpAnyH_special (i := 4) (d := some 42) rfl (by kernel_rfl) rfl rfl (by kernel_rfl) fun wy hcy => ⟨.bool false, wy, none, .inl (by kernel_rfl), hcy, ?_⟩
    refine ⟨by kernel_rfl, fun w9 hz => ?_⟩
    have B8 := Lib.hid hz.out.1
    simp only [Act.put]
    clear HC0 hz
    go_wp2_with fail
    refine (toI_any esa esc es _ (Hes.out.on (Below.on L1.out (Below.on B1.out (Below.on B2.out (Below.on B3.out (Below.on B4.out (Below.on B5.out (Below.on B6.out (Below.on B7.out B8.out))))))))) ces).mono ?_
    rintro e w10 ⟨iv6, rfl, o6, hb⟩
    have B9 := Lib.hid hb
    clear hb
    have O6 := Lib.hid o6
    clear o6
    go_wp2_with fail
    refine (eqs_same iv4 iv6 es _ (Ints.of_own (own_below O4.out (Below.on B6.out (Below.on B7.out (Below.on B8.out B9.out)))) (small ces)) (Ints.of_own O6.out (small ces))).mono ?_
    rintro e w11 ⟨rfl, m, hw⟩
    have B10 := Lib.hid (below_of_drew hw)
    clear hw m
    have z3a : w4.heap.size ≤ w5.heap.size := (B4.out).size
    have z3b : w5.heap.size ≤ w11.heap.size := ((Below.on B5.out (Below.on B6.out (Below.on B7.out (Below.on B8.out (Below.on B9.out B10.out)))))).size
    have z4a : w5.heap.size ≤ w6.heap.size := (B5.out).size
    have z4b : w6.heap.size ≤ w11.heap.size := ((Below.on B6.out (Below.on B7.out (Below.on B8.out (Below.on B9.out B10.out))))).size
    have y3 : w5.heap.size ≤ w5.heap.size := Nat.le_refl _
    have z0 : w.heap.size < w4.heap.size := Nat.lt_of_lt_of_le P0.out.lt ((Below.on B1.out (Below.on B2.out B3.out))).size
    have VL := Lib.hid (show ∀ k, v0.ownBlock = some k → k < w4.heap.size from fun k hk => Nat.lt_of_lt_of_le ((OV.out).lt k hk).2 (Nat.le_refl _))
    have GB : w6.heap.size ≤ w6.heap.size := by exact Nat.le_refl _
    have q0 := (X3.out.on (Below.on B6.out (Below.on B7.out (Below.on B8.out (Below.on B9.out B10.out))))).cell 0
    have q1 := (X3.out.on (Below.on B6.out (Below.on B7.out (Below.on B8.out (Below.on B9.out B10.out))))).cell 1
    have q2 := (X3.out.on (Below.on B6.out (Below.on B7.out (Below.on B8.out (Below.on B9.out B10.out))))).cell 2
    simp at q0 q1 q2
    have hsz : w5.heap.size ≤ w11.heap.size := by omega
    go_wp2_with fail
    refine (markcl_any g (.slice ra3 rows.length rc3) (.slice ma3 makes.length mc3) us3 rows makes 1 w4.heap.size w5.heap.size _ (O3.out.on (Below.on B5.out (Below.on B6.out (Below.on B7.out (Below.on B8.out (Below.on B9.out B10.out)))))) hsz (by omega) (fun j hj => by have := S2.out j hj; omega) (by omega) (by omega) (by omega)).mono ?_
    rintro e w12 ⟨rfl, out⟩
    obtain ⟨K0, hK0⟩ : ∃ K : Int, 1 + (cnt rows rows.length : Int) + makes.length = K := ⟨_, rfl⟩
    have K0a : 0 ≤ K0 := by omega
    have K0b : K0 ≤ 2100000 := by omega
    rw [hK0]
    clear hK0
    clear q0 q1 q2
    have ob := out.below (show w4.heap.size ≤ w11.heap.size by omega)
    have os12 := out.size
    have LM0 := Lib.hid ((Below.on L1.out (Below.on B1.out (Below.on B2.out (Below.on B3.out (Below.on B4.out (Below.on B5.out (Below.on B6.out (Below.on B7.out (Below.on B8.out (Below.on B9.out B10.out)))))))))).trans (ob.mono (show w.heap.size ≤ w4.heap.size by omega)))
    have PM0_0 := Lib.hid ((P0.out.on (Below.on B1.out (Below.on B2.out (Below.on B3.out (Below.on B4.out (Below.on B5.out (Below.on B6.out (Below.on B7.out (Below.on B8.out (Below.on B9.out B10.out)))))))))).low ob (Nat.lt_of_lt_of_le P0.out.lt (by have := ((Below.on B1.out (Below.on B2.out B3.out))).size; omega)))
    have VM0 := Lib.hid (out.low (own_below OV.out (Below.on B4.out (Below.on B5.out (Below.on B6.out (Below.on B7.out (Below.on B8.out (Below.on B9.out B10.out))))))) (fun k hk => by have := VL.out k hk; omega))
    have GM0 := Lib.hid (out.own (own_below OG1.out (Below.on B7.out (Below.on B8.out (Below.on B9.out B10.out)))) (by omega))
    have O4M0 := Lib.hid (out.own (own_below O4.out (Below.on B6.out (Below.on B7.out (Below.on B8.out (Below.on B9.out B10.out))))) (by omega))
    clear out ob hsz
    have hsz : w6.heap.size ≤ w12.heap.size := by omega
    go_wp2_with fail
    refine (markI_any iv4 es _ w5.heap.size _ O4M0.out (by omega) (by omega) (by omega)).mono ?_
    rintro e w13 ⟨rfl, _, gr⟩
    have out := Outside.of_grown (lo := w5.heap.size) (hi := w6.heap.size) gr fun k hk => ⟨(O4M0.out.lt k hk).1, (O4.out.lt k hk).2⟩
    clear gr
    obtain ⟨K1, hK1⟩ : ∃ K : Int, K0 + (es.length : Int) = K := ⟨_, rfl⟩
    have K1a : 0 ≤ K1 := by omega
    have K1b : K1 ≤ 3200000 := by omega
    rw [hK1]
    clear hK1
    have ob := out.below (show w5.heap.size ≤ w12.heap.size by omega)
    have os13 := out.size
    have LM1 := Lib.hid (LM0.out.trans (ob.mono (show w.heap.size ≤ w5.heap.size by omega)))
    have PM1_0 := Lib.hid (PM0_0.out.low ob (Nat.lt_of_lt_of_le P0.out.lt (by have := ((Below.on B1.out (Below.on B2.out B3.out))).size; omega)))
    have VM1 := Lib.hid (out.low VM0.out (fun k hk => by have := VL.out k hk; omega))
    have GM1 := Lib.hid (out.own GM0.out (by omega))
    clear out ob hsz
    go_wp2_with fail
    refine (eqs_same g1 v0 xs _ (Ints.of_own GM1.out (small3 HXL.out)) (Ints.of_own VM1.out (small3 HXL.out))).mono ?_
    rintro e w14 ⟨rfl, m, hw⟩
    have B13 := Lib.hid (below_of_drew hw)
    clear hw m
    have hxl := HXL.out
    go_wp2_with fail
    refine (markI_any g1 xs 1 (w6.heap.size) _ (own_below GM1.out B13.out) (by omega) (by omega) (by omega)).mono ?_
    rintro e w15 ⟨rfl, og, gr⟩
    have out := Outside.of_grown (lo := w6.heap.size) (hi := w14.heap.size) gr fun k hk => ⟨((own_below GM1.out B13.out).lt k hk).1, ((own_below GM1.out B13.out).lt k hk).2⟩
    clear gr
    have hsz : w13.heap.size ≤ w14.heap.size := (B13.out).size
    have hbs : w6.heap.size ≤ w14.heap.size := by have h1 := ((Below.on B6.out (Below.on B7.out (Below.on B8.out (Below.on B9.out B10.out))))).size; omega
    have ob := out.below hbs
    have LQ := Lib.hid ((Below.on LM1.out B13.out).trans (ob.mono (show w.heap.size ≤ w6.heap.size by omega)))
    have PQ0 := Lib.hid ((PM1_0.out.on B13.out).low ob (Nat.lt_of_lt_of_le P0.out.lt (by have := ((Below.on B1.out (Below.on B2.out B3.out))).size; omega)))
    have VQ := Lib.hid (out.low (own_below VM1.out B13.out) (fun k hk => by have := VL.out k hk; omega))
    have GQ := Lib.hid og
    clear out ob og hsz hbs
    have hne : ((1 + (xs.length : Int)) != (1 + (xs.length : Int))) = false := by simp
    go_wp2_with fail
    refine (heldI_any g1 _ 1 _ (Ints.of_own GQ.out (by rw [markTo_len]; exact small3 HXL.out)) (by rw [markTo_len]; omega) (by omega) (by omega) (fun j hj => markTo_nth _ _ _ (Nat.le_refl _) j (by rwa [markTo_len] at hj))).mono ?_
    rintro e wh ⟨rfl, rfl⟩
    rw [markTo_len]
    have q0 := PQ0.out.cell 0
    have q1 := PQ0.out.cell 1
    have q2 := PQ0.out.cell 2
    simp at q0 q1 q2
    go_wp2_with fail
    refine (toCl_any g a b c d rows makes _ (HA.out.on LQ.out) (HB.out.on LQ.out) s1 S2.out s3).mono ?_
    rintro e w16 ⟨rv7, mv7, us7, rfl, o7, hb⟩
    have B15 := Lib.hid hb
    clear hb
    obtain ⟨⟨ra7, rc7, er7⟩, ma7, mc7, em7⟩ := o7.form
    subst er7 em7
    have O7 := Lib.hid o7
    clear o7 q0 q1 q2
    go_wp2_with fail
    refine (toI_any esa esc es _ (Hes.out.on (Below.on LQ.out B15.out)) ces).mono ?_
    rintro e w17 ⟨iv8, rfl, o8, hb⟩
    have B16 := Lib.hid hb
    clear hb
    have O8 := Lib.hid o8
    clear o8
    go_wp2_with fail
    refine (irmk_any g (.slice ra7 rows.length rc7) (.slice ma7 makes.length mc7) iv8 rows makes es _ (HG.out.on (Below.on LQ.out (Below.on B15.out B16.out))) (OwnCl.cw (O7.out.on B16.out) s1 S2.out s3) (Ints.of_own O8.out (small ces))).mono ?_
    rintro e w18 ⟨g2, rfl, o0, hb⟩
    have B17 := Lib.hid hb
    clear hb
    rw [HXS.out] at o0
    have OG2 := Lib.hid o0
    clear o0
    go_wp2_with fail
    refine (eqs_same g2 v0 xs _ (Ints.of_own OG2.out (small3 HXL.out)) (Ints.of_own (own_below VQ.out (Below.on B15.out (Below.on B16.out B17.out))) (small3 HXL.out))).mono ?_
    rintro e w19 ⟨rfl, m, hw⟩
    have B18 := Lib.hid (below_of_drew hw)
    clear hw m
    go_wp2_with fail
    refine (heldI_any g1 _ 1 _ (Ints.of_own (own_below GQ.out (Below.on B15.out (Below.on B16.out (Below.on B17.out B18.out)))) (by rw [markTo_len]; exact small3 HXL.out)) (by rw [markTo_len]; omega) (by omega) (by omega) (fun j hj => markTo_nth _ _ _ (Nat.le_refl _) j (by rwa [markTo_len] at hj))).mono ?_
    rintro e wh ⟨rfl, rfl⟩
    rw [markTo_len]
    go_wp2
    go_ret
    exact ⟨rfl, (Below.on LQ.out (Below.on B15.out (Below.on B16.out (Below.on B17.out B18.out))))⟩
end Go.Proofs.YtopjlbihhbjhnaaDoor
