/- The exact law of WordsOf, walked: spec's answer, impl's answer, and that both are the same; no argument is written to; the answer owns its memory. -/
import Derived.Test.YtopjlbihhbjhnaaDoorLemW
import Derived.Test.YtopjlbihhbjhnaaDoorOfI
import Derived.Test.YtopjlbihhbjhnaaDoorOfS
namespace Go.Proofs.YtopjlbihhbjhnaaDoor
open Go.RowKit

theorem ofS_len (g : Int) (rows : List (List Int)) (makes es further : List Int) (q : Int) : (wdL (ofB g rows makes es further q) (mkAll g rows further)).length ≤ 1000 := by
  cases h : ofB g rows makes es further q
  · simp [wdL]
  · have := (ofB_parts h).1.cl.r3
    simp only [wdL, if_true, mkAll_len]; omega
theorem ofT_len (g : Int) (rows : List (List Int)) (makes es further : List Int) (q : Int) : (wdL (ofB g rows makes es further q) (tellsAll g es further q)).length ≤ 1000 := by
  cases h : ofB g rows makes es further q
  · simp [wdL]
  · have h1 := (ofB_parts h).1
    have := h1.cl.u2
    simp only [wdL, if_true, tellsAll, tellsTo_len, h1.len]; omega

set_option maxHeartbeats 6400000 in
theorem xWordsOf_walk (g : Int) (a : Option Addr) (c : Nat) (rows : List (List Int)) (b : Option Addr) (d : Nat) (makes : List Int) (esa : Option Addr) (esc : Nat) (es : List Int) (furthera : Option Addr) (furtherc : Nat) (further : List Int) (q : Int) (w : World) (G : Gr w) (ha : ArgSS w a rows) (hb : ArgI w b makes) (hn : rows.length ≤ maxLen) (hr : ∀ j, j < rows.length → (row rows j).length ≤ maxLen) (hm : makes.length ≤ maxLen) (hes : ArgI w esa es) (mes : es.length ≤ maxLen) (hfurther : ArgI w furthera further) (mfurther : further.length ≤ maxLen) :
    Calls Tryd.prog 8 #[.agg #[.int .i64 g, .slice a rows.length c, .slice b makes.length d], .slice esa es.length esc, .slice furthera further.length furtherc, .int .i64 q] w fun e w' => e = .returned (.bool true) ∧ Below w.heap.size w w' := by
  have HG := Lib.hid G
  have HA := Lib.hid ha
  have HB := Lib.hid hb
  have HR := Lib.hid hr
  obtain ⟨FB, hfb⟩ : ∃ FB, ofB g rows makes es further q = FB := ⟨_, rfl⟩
  obtain ⟨QQ, hqq⟩ : ∃ QQ, wdQ FB q = QQ := ⟨_, rfl⟩
  obtain ⟨SS, hss⟩ : ∃ SS, wdL FB (mkAll g rows further) = SS := ⟨_, rfl⟩
  obtain ⟨TT, htt⟩ : ∃ TT, wdL FB (tellsAll g es further q) = TT := ⟨_, rfl⟩
  have HFB := Lib.hid hfb
  have HQQ := Lib.hid hqq
  have HSS := Lib.hid hss
  have HTT := Lib.hid htt
  have hqfb := bne_self FB
  have HSL : Hid (SS.length ≤ 1000) := Lib.hid (by rw [← hss, ← hfb]; exact ofS_len _ _ _ _ _ _)
  have HTL : Hid (TT.length ≤ 1000) := Lib.hid (by rw [← htt, ← hfb]; exact ofT_len _ _ _ _ _ _)
  clear hfb hqq hss htt
  unfold maxLen at hn hm
  have Hes := Lib.hid hes
  unfold maxLen at mes
  have Hfurther := Lib.hid hfurther
  unfold maxLen at mfurther
  clear ha hb hr G hes hfurther
  by_cases ces : es.length ≤ 1048576
  case neg =>
    go_enter Tryd.func8, Tryd.ntmps8
    go_wp2
    go_ret
    exact ⟨rfl, below_grow _ _⟩
  by_cases cfurther : further.length ≤ 1048576
  case neg =>
    go_enter Tryd.func8, Tryd.ntmps8
    go_wp2
    go_ret
    exact ⟨rfl, below_grow _ _⟩
  go_enter Tryd.func8, Tryd.ntmps8
  go_wp2_with fail
  refine (szcl_any g a b c d rows makes 1048576 _ (HA.out.on (below_grow _ _)) hn HR.out hm (by omega) (by omega)).mono ?_
  rintro e w1 ⟨r, rfl, hb, hres⟩
  obtain ⟨p0, l1⟩ := boxes1 hb
  have P0 := Lib.hid p0
  have L1 := Lib.hid l1
  clear hb l1 p0
  rcases hres with rfl | ⟨r0, r1, s1, s2, s3, s4⟩
  · go_wp2
    go_ret
    exact ⟨rfl, L1.out⟩
  have S2 := Lib.hid s2
  clear s2
  have q0 := P0.out.cell 0
  have q1 := P0.out.cell 1
  have q2 := P0.out.cell 2
  simp at q0 q1 q2
  go_wp2_with fail
  refine (toCl_any g a b c d rows makes _ (HA.out.on L1.out) (HB.out.on L1.out) s1 S2.out s3).mono ?_
  rintro e w2 ⟨rv1, mv1, us1, rfl, o1, hb⟩
  have B1 := Lib.hid hb
  clear hb
  obtain ⟨⟨ra1, rc1, er1⟩, ma1, mc1, em1⟩ := o1.form
  subst er1 em1
  have O1 := Lib.hid (OwnCl.lower (lo' := w1.heap.size) o1 (by simp))
  clear o1 q0 q1 q2
  go_wp2_with fail
  refine (toI_any esa esc es _ (Hes.out.on (Below.on L1.out B1.out)) ces).mono ?_
  rintro e w3 ⟨iv2, rfl, o2, hb⟩
  have B2 := Lib.hid hb
  clear hb
  have O2 := Lib.hid (own_mono (B' := w2.heap.size) o2 (by simp))
  clear o2
  go_wp2_with fail
  refine (toI_any furthera furtherc further _ (Hfurther.out.on (Below.on L1.out (Below.on B1.out B2.out))) cfurther).mono ?_
  rintro e w4 ⟨iv3, rfl, o3, hb⟩
  have B3 := Lib.hid hb
  clear hb
  have O3 := Lib.hid (own_mono (B' := w3.heap.size) o3 (by simp))
  clear o3
  go_wp2_with fail
  refine (sof_any g (.slice ra1 rows.length rc1) (.slice ma1 makes.length mc1) iv2 iv3 q rows makes es further _ (OwnCl.cw (O1.out.on (Below.on B2.out B3.out)) s1 S2.out s3) (Ints.of_own (own_below O2.out B3.out) (small ces)) (Ints.of_own O3.out (small cfurther))).mono ?_
  rintro e w5 ⟨sv1, tv1, rfl, o0, hb⟩
  have B4 := Lib.hid hb
  clear hb
  rw [HFB.out]
  rw [HQQ.out]
  rw [HFB.out, HSS.out, HTT.out] at o0
  obtain ⟨xa1, xc1, ex1⟩ := Own.form o0.s
  obtain ⟨ya1, yc1, ey1⟩ := Own.form o0.t
  subst ex1 ey1
  have W1 := Lib.hid (OwnW.lower (lo' := w4.heap.size) o0 (by simp))
  clear o0
  have q0 := ((P0.out.on (Below.on B1.out (Below.on B2.out (Below.on B3.out B4.out)))).alloc (.cells #[(.slice xa1 SS.length xc1), .int .i64 QQ, (.slice ya1 TT.length yc1)] 50)).cell 0
  have q1 := ((P0.out.on (Below.on B1.out (Below.on B2.out (Below.on B3.out B4.out)))).alloc (.cells #[(.slice xa1 SS.length xc1), .int .i64 QQ, (.slice ya1 TT.length yc1)] 50)).cell 1
  have q2 := ((P0.out.on (Below.on B1.out (Below.on B2.out (Below.on B3.out B4.out)))).alloc (.cells #[(.slice xa1 SS.length xc1), .int .i64 QQ, (.slice ya1 TT.length yc1)] 50)).cell 2
  simp at q0 q1 q2
  go_wp2_with fail
  refine (toCl_any g a b c d rows makes _ (HA.out.on (Below.on (Below.on L1.out (Below.on B1.out (Below.on B2.out (Below.on B3.out B4.out)))) (below_grow _ _))) (HB.out.on (Below.on (Below.on L1.out (Below.on B1.out (Below.on B2.out (Below.on B3.out B4.out)))) (below_grow _ _))) s1 S2.out s3).mono ?_
  rintro e w6 ⟨rv4, mv4, us4, rfl, o4, hb⟩
  have B5 := Lib.hid (Below.on (below_grow w5 (.cells #[(.slice xa1 SS.length xc1), .int .i64 QQ, (.slice ya1 TT.length yc1)] 50)) hb)
  have BX1 := Lib.hid ((Box.made w5 [(.slice xa1 SS.length xc1), .int .i64 QQ, (.slice ya1 TT.length yc1)] 50).on hb)
  clear hb
  obtain ⟨⟨ra4, rc4, er4⟩, ma4, mc4, em4⟩ := o4.form
  subst er4 em4
  have O4 := Lib.hid (OwnCl.lower (lo' := (w5.heap.size + 1)) o4 (by simp))
  clear o4 q0 q1 q2
  go_wp2_with fail
  refine (toI_any esa esc es _ (Hes.out.on (Below.on (Below.on L1.out (Below.on B1.out (Below.on B2.out (Below.on B3.out (Below.on B4.out B5.out))))) (below_grow _ _))) ces).mono ?_
  rintro e w7 ⟨iv5, rfl, o5, hb⟩
  have B6 := Lib.hid (Below.on (below_grow w6 (.cells #[.int .i64 g, (.slice ra4 rows.length rc4), (.slice ma4 makes.length mc4)] 35)) hb)
  have XC := Lib.hid ((Box.made w6 [.int .i64 g, (.slice ra4 rows.length rc4), (.slice ma4 makes.length mc4)] 35).on hb)
  clear hb
  have O5 := Lib.hid (own_mono (B' := w6.heap.size) o5 (by simp))
  clear o5
  go_wp2_with fail
  refine (toI_any furthera furtherc further _ (Hfurther.out.on (Below.on L1.out (Below.on B1.out (Below.on B2.out (Below.on B3.out (Below.on B4.out (Below.on B5.out B6.out))))))) cfurther).mono ?_
  rintro e w8 ⟨iv6, rfl, o6, hb⟩
  have B7 := Lib.hid hb
  clear hb
  have O6 := Lib.hid (own_mono (B' := w7.heap.size) o6 (by simp))
  clear o6
  have e0 := (XC.out.on B7.out).cell 0
  have e1 := (XC.out.on B7.out).cell 1
  have e2 := (XC.out.on B7.out).cell 2
  simp at e0 e1 e2
  go_wp2_with fail
  refine (iof_any g (.slice ra4 rows.length rc4) (.slice ma4 makes.length mc4) iv5 iv6 q rows makes es further _ (HG.out.on (Below.on L1.out (Below.on B1.out (Below.on B2.out (Below.on B3.out (Below.on B4.out (Below.on B5.out (Below.on B6.out B7.out)))))))) (OwnCl.cw (O4.out.on (Below.on B6.out B7.out)) s1 S2.out s3) (Ints.of_own (own_below O5.out B7.out) (small ces)) (Ints.of_own O6.out (small cfurther))).mono ?_
  rintro e w9 ⟨sv2, tv2, rfl, o0, hb⟩
  have B8 := Lib.hid hb
  clear hb
  rw [HFB.out]
  rw [HQQ.out]
  rw [HFB.out, HSS.out, HTT.out] at o0
  obtain ⟨xa2, xc2, ex2⟩ := Own.form o0.s
  obtain ⟨ya2, yc2, ey2⟩ := Own.form o0.t
  subst ex2 ey2
  have W2 := Lib.hid (OwnW.lower (lo' := w8.heap.size) o0 (by simp))
  clear o0
  clear e0 e1 e2
  have e0 := ((BX1.out.on (Below.on B6.out (Below.on B7.out B8.out))).alloc (.cells #[(.slice xa2 SS.length xc2), .int .i64 QQ, (.slice ya2 TT.length yc2)] 50)).cell 0
  have e1 := ((BX1.out.on (Below.on B6.out (Below.on B7.out B8.out))).alloc (.cells #[(.slice xa2 SS.length xc2), .int .i64 QQ, (.slice ya2 TT.length yc2)] 50)).cell 1
  have e2 := ((BX1.out.on (Below.on B6.out (Below.on B7.out B8.out))).alloc (.cells #[(.slice xa2 SS.length xc2), .int .i64 QQ, (.slice ya2 TT.length yc2)] 50)).cell 2
  simp at e0 e1 e2
  go_wp2_with fail
  refine (eqw_any QQ (.slice xa2 SS.length xc2) (.slice ya2 TT.length yc2) (.slice xa1 SS.length xc1) (.slice ya1 TT.length yc1) SS TT _ ((Ints.of_own W2.out.s (small3 HSL.out)).below (below_grow _ _)) ((Ints.of_own W2.out.t (small3 HTL.out)).below (below_grow _ _)) ((Ints.of_own (W1.out.on (Below.on B5.out (Below.on B6.out (Below.on B7.out B8.out)))).s (small3 HSL.out)).below (below_grow _ _)) ((Ints.of_own (W1.out.on (Below.on B5.out (Below.on B6.out (Below.on B7.out B8.out)))).t (small3 HTL.out)).below (below_grow _ _))).mono ?_
  rintro e w10 ⟨rfl, hb⟩
  have B9 := Lib.hid (Below.on (below_grow w9 (.cells #[(.slice xa2 SS.length xc2), .int .i64 QQ, (.slice ya2 TT.length yc2)] 50)) hb)
  have BX2 := Lib.hid ((Box.made w9 [(.slice xa2 SS.length xc2), .int .i64 QQ, (.slice ya2 TT.length yc2)] 50).on hb)
  clear hb
  clear e0 e1 e2
  have HC0 : Hid (∀ w', Below w10.heap.size w10 w' → Box w' w6.heap.size [.int .i64 g, (.slice ra4 rows.length rc4), (.slice ma4 makes.length mc4)] ∧ Box w' w.heap.size [.int .i64 g, .slice a rows.length c, .slice b makes.length d]) := Lib.hid fun w' hb => ⟨(XC.out.on (Below.on B7.out (Below.on B8.out B9.out))).on hb, (P0.out.on (Below.on B1.out (Below.on B2.out (Below.on B3.out (Below.on B4.out (Below.on B5.out (Below.on B6.out (Below.on B7.out (Below.on B8.out B9.out))))))))).on hb⟩
  go_wp2_with fail
  apply wp_region_H (Z := Option (Value × Value)) (S := fun k => k == 2 || k == 3 || k == 4) (C := fun z w' => Hid (Below w10.heap.size w10 w' ∧ ∀ r, z = some r → Cw w' r.1 r.2 rows makes)) [0, 1] none
  · kernel_rfl
  · kernel_rfl
  · kernel_rfl
  · exact ⟨rfl, rfl, trivial⟩
  · rfl
  · decide
  · exact Lib.hid ⟨(Below.refl _ _).drew, fun r hr => by cases hr⟩
  · intro z
    dsimp only [pickL, nthO]
    repeat (first | go_big_quiet_skip | (go_big_quiet_want; go_big_quiet_op; first | go_big_quiet_on | (refine ⟨_, fun _ _ => rfl, ?_⟩; go_big_quiet_on)))
    go_big_quiet_want
    go_big_quiet_op
    refine ⟨.agg #[.int .i64 g, (.slice ra4 rows.length rc4), (.slice ma4 makes.length mc4)], fun w' hw' => ?_, ?_⟩
    · have q := (HC0.out w' hw'.out.1).1
      have q0 := q.cell 0; have q1 := q.cell 1; have q2 := q.cell 2
      simp at q0 q1 q2
      simp [go_sem, q0, q1, q2]
    go_big_quiet_on
    repeat (first | go_big_quiet_skip | (go_big_quiet_want; go_big_quiet_op; first | go_big_quiet_on | (refine ⟨_, fun _ _ => rfl, ?_⟩; go_big_quiet_on)))
    go_big_quiet_want
    go_big_quiet_op
    refine ⟨.agg #[.int .i64 g, .slice a rows.length c, .slice b makes.length d], fun w' hw' => ?_, ?_⟩
    · have q := (HC0.out w' hw'.out.1).2
      have q0 := q.cell 0; have q1 := q.cell 1; have q2 := q.cell 2
      simp at q0 q1 q2
      simp [go_sem, q0, q1, q2]
    go_big_quiet_on
    exact wpQuiet_nil rfl
  · refine wpAnyH_call (i := 2) (d := some 69) 18 #[.agg #[.int .i64 g, .slice a rows.length c, .slice b makes.length d]] rfl (by kernel_rfl) rfl rfl (by kernel_rfl) (fun _ => by kernel_rfl) fun wa hc => ?_
    refine (toCl_any g a b c d rows makes _ (HA.out.on (Below.on (Below.on L1.out (Below.on B1.out (Below.on B2.out (Below.on B3.out (Below.on B4.out (Below.on B5.out (Below.on B6.out (Below.on B7.out (Below.on B8.out B9.out))))))))) hc.out.1)) (HB.out.on (Below.on (Below.on L1.out (Below.on B1.out (Below.on B2.out (Below.on B3.out (Below.on B4.out (Below.on B5.out (Below.on B6.out (Below.on B7.out (Below.on B8.out B9.out))))))))) hc.out.1)) s1 S2.out s3).mono ?_
    rintro e wb ⟨rv9, mv9, us9, rfl, o9, hb⟩
    refine ⟨_, rfl, some (rv9, mv9), Lib.hid ⟨Below.on hc.out.1 hb, fun r hr => by cases hr; exact OwnCl.cw o9 s1 S2.out s3⟩, ?_⟩
    clear o9 hb hc
    refine wpAnyH_call (i := 3) (d := some 70) 20 #[.agg #[.int .i64 g, (.slice ra4 rows.length rc4), (.slice ma4 makes.length mc4)], .agg #[.int .i64 g, rv9, mv9]] rfl (by kernel_rfl) rfl rfl (by kernel_rfl) (fun _ => by kernel_rfl) fun wc hc => ?_
    have k1 := OwnCl.cw ((O4.out.on (Below.on B6.out (Below.on B7.out (Below.on B8.out B9.out)))).on hc.out.1) s1 S2.out s3
    have k2 := hc.out.2 _ rfl
    refine (eqcl_any g (.slice ra4 rows.length rc4) (.slice ma4 makes.length mc4) rv9 mv9 rows makes _ k1.rows k1.makes k2.rows k2.makes).mono ?_
    rintro e wd ⟨rfl, hb⟩
    refine ⟨_, rfl, none, Lib.hid ⟨Below.on hc.out.1 hb, fun r hr => by cases hr⟩, ?_⟩
    refine wpAnyH_special (i := 4) (d := some 71) rfl (by kernel_rfl) rfl rfl (by kernel_rfl) fun wy hcy => ⟨.bool false, wy, none, .inl (by kernel_rfl), hcy, ?_⟩
    refine ⟨by kernel_rfl, fun w11 hz => ?_⟩
    have B10 := Lib.hid hz.out.1
    simp only [Act.put]
    clear HC0 hz
    go_wp2_with fail
    refine (toI_any esa esc es _ (Hes.out.on (Below.on L1.out (Below.on B1.out (Below.on B2.out (Below.on B3.out (Below.on B4.out (Below.on B5.out (Below.on B6.out (Below.on B7.out (Below.on B8.out (Below.on B9.out B10.out))))))))))) ces).mono ?_
    rintro e w12 ⟨iv7, rfl, o7, hb⟩
    have B11 := Lib.hid hb
    clear hb
    have O7 := Lib.hid (own_mono (B' := w11.heap.size) o7 (by simp))
    clear o7
    go_wp2_with fail
    refine (eqs_sameb iv5 iv7 es _ (Ints.of_own (own_below O5.out (Below.on B7.out (Below.on B8.out (Below.on B9.out (Below.on B10.out B11.out))))) (small ces)) (Ints.of_own O7.out (small ces))).mono ?_
    rintro e w13 ⟨rfl, hb⟩
    have B12 := Lib.hid hb
    clear hb
    go_wp2_with fail
    refine (toI_any furthera furtherc further _ (Hfurther.out.on (Below.on L1.out (Below.on B1.out (Below.on B2.out (Below.on B3.out (Below.on B4.out (Below.on B5.out (Below.on B6.out (Below.on B7.out (Below.on B8.out (Below.on B9.out (Below.on B10.out (Below.on B11.out B12.out))))))))))))) cfurther).mono ?_
    rintro e w14 ⟨iv8, rfl, o8, hb⟩
    have B13 := Lib.hid hb
    clear hb
    have O8 := Lib.hid (own_mono (B' := w13.heap.size) o8 (by simp))
    clear o8
    go_wp2_with fail
    refine (eqs_sameb iv6 iv8 further _ (Ints.of_own (own_below O6.out (Below.on B8.out (Below.on B9.out (Below.on B10.out (Below.on B11.out (Below.on B12.out B13.out)))))) (small cfurther)) (Ints.of_own O8.out (small cfurther))).mono ?_
    rintro e w15 ⟨rfl, hb⟩
    have B14 := Lib.hid hb
    clear hb
    have zW : w5.heap.size < w6.heap.size := BX1.out.lt
    have z4b : w6.heap.size ≤ w15.heap.size := ((Below.on B6.out (Below.on B7.out (Below.on B8.out (Below.on B9.out (Below.on B10.out (Below.on B11.out (Below.on B12.out (Below.on B13.out B14.out))))))))).size
    have z4a : w5.heap.size ≤ w6.heap.size := (B5.out).size
    have z5b : w7.heap.size ≤ w15.heap.size := ((Below.on B7.out (Below.on B8.out (Below.on B9.out (Below.on B10.out (Below.on B11.out (Below.on B12.out (Below.on B13.out B14.out)))))))).size
    have z5a : w6.heap.size ≤ w7.heap.size := (B6.out).size
    have z6b : w8.heap.size ≤ w15.heap.size := ((Below.on B8.out (Below.on B9.out (Below.on B10.out (Below.on B11.out (Below.on B12.out (Below.on B13.out B14.out))))))).size
    have z6a : w7.heap.size ≤ w8.heap.size := (B7.out).size
    have y4 : w6.heap.size ≤ w6.heap.size := Nat.le_refl _
    have y5 : w7.heap.size ≤ w7.heap.size := Nat.le_refl _
    have zX : w8.heap.size ≤ w8.heap.size := Nat.le_refl _
    have zX2 : w8.heap.size ≤ w9.heap.size := (B8.out).size
    have zX3 : w9.heap.size < w15.heap.size := Nat.lt_of_lt_of_le BX2.out.lt ((Below.on B10.out (Below.on B11.out (Below.on B12.out (Below.on B13.out B14.out))))).size
    have z0 : w.heap.size < w5.heap.size := Nat.lt_of_lt_of_le P0.out.lt ((Below.on B1.out (Below.on B2.out (Below.on B3.out B4.out)))).size
    have VLs := Lib.hid (fun k hk => ((W1.out).s.lt k hk).2)
    have VLt := Lib.hid (fun k hk => ((W1.out).t.lt k hk).2)
    have hsz : w6.heap.size ≤ w15.heap.size := by omega
    have q0 := (XC.out.on (Below.on B7.out (Below.on B8.out (Below.on B9.out (Below.on B10.out (Below.on B11.out (Below.on B12.out (Below.on B13.out B14.out)))))))).cell 0
    have q1 := (XC.out.on (Below.on B7.out (Below.on B8.out (Below.on B9.out (Below.on B10.out (Below.on B11.out (Below.on B12.out (Below.on B13.out B14.out)))))))).cell 1
    have q2 := (XC.out.on (Below.on B7.out (Below.on B8.out (Below.on B9.out (Below.on B10.out (Below.on B11.out (Below.on B12.out (Below.on B13.out B14.out)))))))).cell 2
    simp at q0 q1 q2
    go_wp2_with fail
    refine (markcl_any g (.slice ra4 rows.length rc4) (.slice ma4 makes.length mc4) us4 rows makes 1 (w5.heap.size + 1) w6.heap.size _ (O4.out.on (Below.on B6.out (Below.on B7.out (Below.on B8.out (Below.on B9.out (Below.on B10.out (Below.on B11.out (Below.on B12.out (Below.on B13.out B14.out))))))))) hsz (by omega) (fun j hj => by have := S2.out j hj; omega) (by omega) (by omega) (by omega)).mono ?_
    rintro e w16 ⟨rfl, out⟩
    obtain ⟨K0, hK⟩ : ∃ K : Int, 1 + (cnt rows rows.length : Int) + makes.length = K := ⟨_, rfl⟩
    have K0a : 0 ≤ K0 := by omega
    have K0b : K0 ≤ 2100000 := by omega
    rw [hK]
    clear hK q0 q1 q2
    have ob := out.below (show (w5.heap.size + 1) ≤ w15.heap.size by omega)
    have os16 := out.size
    have LM0 := Lib.hid ((Below.on L1.out (Below.on B1.out (Below.on B2.out (Below.on B3.out (Below.on B4.out (Below.on B5.out (Below.on B6.out (Below.on B7.out (Below.on B8.out (Below.on B9.out (Below.on B10.out (Below.on B11.out (Below.on B12.out (Below.on B13.out B14.out)))))))))))))).trans (ob.mono (show w.heap.size ≤ (w5.heap.size + 1) by omega)))
    have PM0 := Lib.hid ((P0.out.on (Below.on B1.out (Below.on B2.out (Below.on B3.out (Below.on B4.out (Below.on B5.out (Below.on B6.out (Below.on B7.out (Below.on B8.out (Below.on B9.out (Below.on B10.out (Below.on B11.out (Below.on B12.out (Below.on B13.out B14.out)))))))))))))).low ob (by omega))
    have WM0 := Lib.hid (OwnW.near out (W1.out.on (Below.on B5.out (Below.on B6.out (Below.on B7.out (Below.on B8.out (Below.on B9.out (Below.on B10.out (Below.on B11.out (Below.on B12.out (Below.on B13.out B14.out)))))))))) (fun k hk => by have := VLs.out k hk; omega) (fun k hk => by have := VLt.out k hk; omega))
    have WB0 := Lib.hid ((BX1.out.on (Below.on B6.out (Below.on B7.out (Below.on B8.out (Below.on B9.out (Below.on B10.out (Below.on B11.out (Below.on B12.out (Below.on B13.out B14.out))))))))).low ob (by omega))
    have XM0 := Lib.hid (OwnW.far out (W2.out.on (Below.on B9.out (Below.on B10.out (Below.on B11.out (Below.on B12.out (Below.on B13.out B14.out)))))) (by omega))
    have XB0 := Lib.hid (out.box (BX2.out.on (Below.on B10.out (Below.on B11.out (Below.on B12.out (Below.on B13.out B14.out))))) (by omega))
    have O5M0 := Lib.hid (out.own (own_below O5.out (Below.on B7.out (Below.on B8.out (Below.on B9.out (Below.on B10.out (Below.on B11.out (Below.on B12.out (Below.on B13.out B14.out)))))))) (by omega))
    have O6M0 := Lib.hid (out.own (own_below O6.out (Below.on B8.out (Below.on B9.out (Below.on B10.out (Below.on B11.out (Below.on B12.out (Below.on B13.out B14.out))))))) (by omega))
    clear out ob
    clear hsz
    have hsz : w7.heap.size ≤ w16.heap.size := by omega
    go_wp2_with fail
    refine (markI_any iv5 es _ w6.heap.size _ O5M0.out (by omega) (by omega) (by omega)).mono ?_
    rintro e w17 ⟨rfl, _, gr⟩
    have out := Outside.of_grown (lo := w6.heap.size) (hi := w7.heap.size) gr fun k hk => ⟨(O5M0.out.lt k hk).1, (O5.out.lt k hk).2⟩
    clear gr
    obtain ⟨K1, hK⟩ : ∃ K : Int, K0 + (es.length : Int) = K := ⟨_, rfl⟩
    have K1a : 0 ≤ K1 := by omega
    have K1b : K1 ≤ 3200000 := by omega
    rw [hK]
    clear hK
    have ob := out.below (show w6.heap.size ≤ w16.heap.size by omega)
    have os17 := out.size
    have LM1 := Lib.hid (LM0.out.trans (ob.mono (show w.heap.size ≤ w6.heap.size by omega)))
    have PM1 := Lib.hid (PM0.out.low ob (by omega))
    have WM1 := Lib.hid (OwnW.near out WM0.out (fun k hk => by have := VLs.out k hk; omega) (fun k hk => by have := VLt.out k hk; omega))
    have WB1 := Lib.hid (WB0.out.low ob (by omega))
    have XM1 := Lib.hid (OwnW.far out XM0.out (by omega))
    have XB1 := Lib.hid (out.box XB0.out (by omega))
    have O6M1 := Lib.hid (out.own O6M0.out (by omega))
    clear out ob
    clear hsz
    have hsz : w8.heap.size ≤ w17.heap.size := by omega
    go_wp2_with fail
    refine (markI_any iv6 further _ w7.heap.size _ O6M1.out (by omega) (by omega) (by omega)).mono ?_
    rintro e w18 ⟨rfl, _, gr⟩
    have out := Outside.of_grown (lo := w7.heap.size) (hi := w8.heap.size) gr fun k hk => ⟨(O6M1.out.lt k hk).1, (O6.out.lt k hk).2⟩
    clear gr
    obtain ⟨K2, hK⟩ : ∃ K : Int, K1 + (further.length : Int) = K := ⟨_, rfl⟩
    have K2a : 0 ≤ K2 := by omega
    have K2b : K2 ≤ 4300000 := by omega
    rw [hK]
    clear hK
    have ob := out.below (show w7.heap.size ≤ w17.heap.size by omega)
    have os18 := out.size
    have LM2 := Lib.hid (LM1.out.trans (ob.mono (show w.heap.size ≤ w7.heap.size by omega)))
    have PM2 := Lib.hid (PM1.out.low ob (by omega))
    have WM2 := Lib.hid (OwnW.near out WM1.out (fun k hk => by have := VLs.out k hk; omega) (fun k hk => by have := VLt.out k hk; omega))
    have WB2 := Lib.hid (WB1.out.low ob (by omega))
    have XM2 := Lib.hid (OwnW.far out XM1.out (by omega))
    have XB2 := Lib.hid (out.box XB1.out (by omega))
    clear out ob
    clear hsz
    have e0 := WB2.out.cell 0
    have e1 := WB2.out.cell 1
    have e2 := WB2.out.cell 2
    simp at e0 e1 e2
    have y0 := XB2.out.cell 0
    have y1 := XB2.out.cell 1
    have y2 := XB2.out.cell 2
    simp at y0 y1 y2
    go_wp2_with fail
    refine (eqw_any QQ (.slice xa2 SS.length xc2) (.slice ya2 TT.length yc2) (.slice xa1 SS.length xc1) (.slice ya1 TT.length yc1) SS TT _ (Ints.of_own XM2.out.s (small3 HSL.out)) (Ints.of_own XM2.out.t (small3 HTL.out)) (Ints.of_own WM2.out.s (small3 HSL.out)) (Ints.of_own WM2.out.t (small3 HTL.out))).mono ?_
    rintro e w19 ⟨rfl, hb⟩
    have B18 := Lib.hid hb
    clear hb
    clear e0 e1 e2 y0 y1 y2
    have hsl := HSL.out
    have htl := HTL.out
    have hsz : w9.heap.size ≤ w19.heap.size := by have := (B18.out).size; omega
    have q0 := (XB2.out.on B18.out).cell 0
    have q1 := (XB2.out.on B18.out).cell 1
    have q2 := (XB2.out.on B18.out).cell 2
    simp at q0 q1 q2
    go_wp2_with fail
    refine (markw_any QQ (.slice xa2 SS.length xc2) (.slice ya2 TT.length yc2) SS TT 1 w8.heap.size w9.heap.size _ (XM2.out.on B18.out) hsz (by omega) (by omega) (by omega) (by omega)).mono ?_
    rintro e w20 ⟨rfl, og, out⟩
    clear q0 q1 q2
    have XQ := Lib.hid og
    clear og
    have ob := out.below (show w8.heap.size ≤ w19.heap.size by omega)
    have os20 := out.size
    have LM7 := Lib.hid ((Below.on LM2.out B18.out).trans (ob.mono (show w.heap.size ≤ w8.heap.size by omega)))
    have PM7 := Lib.hid ((PM2.out.on B18.out).low ob (by omega))
    have WM7 := Lib.hid (OwnW.near out (WM2.out.on B18.out) (fun k hk => by have := VLs.out k hk; omega) (fun k hk => by have := VLt.out k hk; omega))
    have WB7 := Lib.hid ((WB2.out.on B18.out).low ob (by omega))
    have XB7 := Lib.hid (out.box (XB2.out.on B18.out) (by omega))
    clear out ob
    clear hsz
    have hne : ((1 + (SS.length : Int) + (TT.length : Int)) != (1 + (SS.length : Int) + (TT.length : Int))) = false := by simp
    have q0 := XB7.out.cell 0
    have q1 := XB7.out.cell 1
    have q2 := XB7.out.cell 2
    simp at q0 q1 q2
    go_wp2_with fail
    refine (heldw_is QQ (.slice xa2 SS.length xc2) (.slice ya2 TT.length yc2) SS TT _ XQ.out (by omega) (by omega)).mono ?_
    rintro e w21 ⟨rfl, hb⟩
    have B20 := Lib.hid hb
    clear hb
    clear q0 q1 q2
    have q0 := (PM7.out.on B20.out).cell 0
    have q1 := (PM7.out.on B20.out).cell 1
    have q2 := (PM7.out.on B20.out).cell 2
    simp at q0 q1 q2
    go_wp2_with fail
    refine (toCl_any g a b c d rows makes _ (HA.out.on (Below.on LM7.out B20.out)) (HB.out.on (Below.on LM7.out B20.out)) s1 S2.out s3).mono ?_
    rintro e w22 ⟨rv9, mv9, us9, rfl, o9, hb⟩
    have B21 := Lib.hid hb
    clear hb
    obtain ⟨⟨ra9, rc9, er9⟩, ma9, mc9, em9⟩ := o9.form
    subst er9 em9
    have O9 := Lib.hid (OwnCl.lower (lo' := w21.heap.size) o9 (by simp))
    clear o9 q0 q1 q2
    go_wp2_with fail
    refine (toI_any esa esc es _ (Hes.out.on (Below.on LM7.out (Below.on B20.out B21.out))) ces).mono ?_
    rintro e w23 ⟨iv10, rfl, o10, hb⟩
    have B22 := Lib.hid hb
    clear hb
    have O10 := Lib.hid (own_mono (B' := w22.heap.size) o10 (by simp))
    clear o10
    go_wp2_with fail
    refine (toI_any furthera furtherc further _ (Hfurther.out.on (Below.on LM7.out (Below.on B20.out (Below.on B21.out B22.out)))) cfurther).mono ?_
    rintro e w24 ⟨iv11, rfl, o11, hb⟩
    have B23 := Lib.hid hb
    clear hb
    have O11 := Lib.hid (own_mono (B' := w23.heap.size) o11 (by simp))
    clear o11
    go_wp2_with fail
    refine (iof_any g (.slice ra9 rows.length rc9) (.slice ma9 makes.length mc9) iv10 iv11 q rows makes es further _ (HG.out.on (Below.on LM7.out (Below.on B20.out (Below.on B21.out (Below.on B22.out B23.out))))) (OwnCl.cw (O9.out.on (Below.on B22.out B23.out)) s1 S2.out s3) (Ints.of_own (own_below O10.out B23.out) (small ces)) (Ints.of_own O11.out (small cfurther))).mono ?_
    rintro e w25 ⟨sv3, tv3, rfl, o0, hb⟩
    have B24 := Lib.hid hb
    clear hb
    rw [HFB.out]
    rw [HQQ.out]
    rw [HFB.out, HSS.out, HTT.out] at o0
    obtain ⟨xa3, xc3, ex3⟩ := Own.form o0.s
    obtain ⟨ya3, yc3, ey3⟩ := Own.form o0.t
    subst ex3 ey3
    have W3 := Lib.hid (OwnW.lower (lo' := w24.heap.size) o0 (by simp))
    clear o0
    have e0 := ((WB7.out.on (Below.on B20.out (Below.on B21.out (Below.on B22.out (Below.on B23.out B24.out))))).alloc (.cells #[(.slice xa3 SS.length xc3), .int .i64 QQ, (.slice ya3 TT.length yc3)] 50)).cell 0
    have e1 := ((WB7.out.on (Below.on B20.out (Below.on B21.out (Below.on B22.out (Below.on B23.out B24.out))))).alloc (.cells #[(.slice xa3 SS.length xc3), .int .i64 QQ, (.slice ya3 TT.length yc3)] 50)).cell 1
    have e2 := ((WB7.out.on (Below.on B20.out (Below.on B21.out (Below.on B22.out (Below.on B23.out B24.out))))).alloc (.cells #[(.slice xa3 SS.length xc3), .int .i64 QQ, (.slice ya3 TT.length yc3)] 50)).cell 2
    simp at e0 e1 e2
    go_wp2_with fail
    refine (eqw_any QQ (.slice xa3 SS.length xc3) (.slice ya3 TT.length yc3) (.slice xa1 SS.length xc1) (.slice ya1 TT.length yc1) SS TT _ ((Ints.of_own W3.out.s (small3 HSL.out)).below (below_grow _ _)) ((Ints.of_own W3.out.t (small3 HTL.out)).below (below_grow _ _)) ((Ints.of_own (WM7.out.on (Below.on B20.out (Below.on B21.out (Below.on B22.out (Below.on B23.out B24.out))))).s (small3 HSL.out)).below (below_grow _ _)) ((Ints.of_own (WM7.out.on (Below.on B20.out (Below.on B21.out (Below.on B22.out (Below.on B23.out B24.out))))).t (small3 HTL.out)).below (below_grow _ _))).mono ?_
    rintro e w26 ⟨rfl, hb⟩
    have B25 := Lib.hid (Below.on (below_grow w25 (.cells #[(.slice xa3 SS.length xc3), .int .i64 QQ, (.slice ya3 TT.length yc3)] 50)) hb)
    have BX3 := Lib.hid ((Box.made w25 [(.slice xa3 SS.length xc3), .int .i64 QQ, (.slice ya3 TT.length yc3)] 50).on hb)
    clear hb
    clear e0 e1 e2
    have q0 := (XB7.out.on (Below.on B20.out (Below.on B21.out (Below.on B22.out (Below.on B23.out (Below.on B24.out B25.out)))))).cell 0
    have q1 := (XB7.out.on (Below.on B20.out (Below.on B21.out (Below.on B22.out (Below.on B23.out (Below.on B24.out B25.out)))))).cell 1
    have q2 := (XB7.out.on (Below.on B20.out (Below.on B21.out (Below.on B22.out (Below.on B23.out (Below.on B24.out B25.out)))))).cell 2
    simp at q0 q1 q2
    go_wp2_with fail
    refine (heldw_is QQ (.slice xa2 SS.length xc2) (.slice ya2 TT.length yc2) SS TT _ (XQ.out.on (Below.on B20.out (Below.on B21.out (Below.on B22.out (Below.on B23.out (Below.on B24.out B25.out)))))) (by omega) (by omega)).mono ?_
    rintro e w27 ⟨rfl, hb⟩
    have B26 := Lib.hid hb
    clear hb
    clear q0 q1 q2
    go_wp2
    go_ret
    exact ⟨rfl, (Below.on LM7.out (Below.on B20.out (Below.on B21.out (Below.on B22.out (Below.on B23.out (Below.on B24.out (Below.on B25.out B26.out)))))))⟩
end Go.Proofs.YtopjlbihhbjhnaaDoor
