/- The exact law of WordsMade, walked: spec's answer, impl's answer, and that both are the same; no argument is written to; the answer owns its memory. -/
import Derived.Test.YtopjlbihhbjhnaaDoorLemW
namespace Go.Proofs.YtopjlbihhbjhnaaDoor
open Go.RowKit

theorem mdS_len (g : Int) (rows : List (List Int)) (makes : List Int) (q : Int) (tells : List Int) : (wdL (mdB g rows makes q tells) (saysUp g rows makes q tells)).length ≤ 1000 := by
  cases h : mdB g rows makes q tells
  · simp [wdL]
  · unfold mdB at h
    simp only [Bool.and_eq_true] at h
    have := (lotB_true.1 h.1).cl.r3
    simp only [wdL, if_true, saysUp_len]; omega
theorem mdT_len (g : Int) (rows : List (List Int)) (makes : List Int) (q : Int) (tells : List Int) : (wdL (mdB g rows makes q tells) tells).length ≤ 1000 := by
  cases h : mdB g rows makes q tells
  · simp [wdL]
  · unfold mdB at h
    simp only [Bool.and_eq_true] at h
    have h1 := lotB_true.1 h.1
    have := h1.cl.u2
    simp only [wdL, if_true, h1.len]; omega

set_option maxHeartbeats 6400000 in
theorem xWordsMade_walk (g : Int) (a : Option Addr) (c : Nat) (rows : List (List Int)) (b : Option Addr) (d : Nat) (makes : List Int) (q : Int) (tellsa : Option Addr) (tellsc : Nat) (tells : List Int) (w : World) (G : Gr w) (ha : ArgSS w a rows) (hb : ArgI w b makes) (hn : rows.length ≤ maxLen) (hr : ∀ j, j < rows.length → (row rows j).length ≤ maxLen) (hm : makes.length ≤ maxLen) (htells : ArgI w tellsa tells) (mtells : tells.length ≤ maxLen) :
    Calls Tryd.prog 10 #[.agg #[.int .i64 g, .slice a rows.length c, .slice b makes.length d], .int .i64 q, .slice tellsa tells.length tellsc] w fun e w' => e = .returned (.bool true) ∧ Below w.heap.size w w' := by
  have HG := Lib.hid G
  have HA := Lib.hid ha
  have HB := Lib.hid hb
  have HR := Lib.hid hr
  obtain ⟨FB, hfb⟩ : ∃ FB, mdB g rows makes q tells = FB := ⟨_, rfl⟩
  obtain ⟨QQ, hqq⟩ : ∃ QQ, wdQ FB q = QQ := ⟨_, rfl⟩
  obtain ⟨SS, hss⟩ : ∃ SS, wdL FB (saysUp g rows makes q tells) = SS := ⟨_, rfl⟩
  obtain ⟨TT, htt⟩ : ∃ TT, wdL FB (tells) = TT := ⟨_, rfl⟩
  have HFB := Lib.hid hfb
  have HQQ := Lib.hid hqq
  have HSS := Lib.hid hss
  have HTT := Lib.hid htt
  have hqfb := bne_self FB
  have HSL : Hid (SS.length ≤ 1000) := Lib.hid (by rw [← hss, ← hfb]; exact mdS_len _ _ _ _ _)
  have HTL : Hid (TT.length ≤ 1000) := Lib.hid (by rw [← htt, ← hfb]; exact mdT_len _ _ _ _ _)
  clear hfb hqq hss htt
  unfold maxLen at hn hm
  have Htells := Lib.hid htells
  unfold maxLen at mtells
  clear ha hb hr G htells
  by_cases ctells : tells.length ≤ 1048576
  case neg =>
    go_enter Tryd.func10, Tryd.ntmps10
    go_wp2
    go_ret
    exact ⟨rfl, below_grow _ _⟩
  go_enter Tryd.func10, Tryd.ntmps10
  go_wp2_with fail
  refine (szcl_any g a b c d rows makes 1048576 _ (HA.out.on (below_grow _ _)) hn HR.out hm (by omega) (by omega)).mono ?_
  rintro e w1 ⟨r, rfl, hb, hres⟩
  obtain ⟨p0, l1⟩ := boxes1 hb
  have P0 := Lib.hid p0
  have L1 := Lib.hid l1
  clear hb l1 p0
  rcases hres with rfl | ⟨r0, r1, s1, s2, s3, s4⟩
  · go_wp2
    go_ret
    exact ⟨rfl, L1.out⟩
  have S2 := Lib.hid s2
  clear s2
  have q0 := P0.out.cell 0
  have q1 := P0.out.cell 1
  have q2 := P0.out.cell 2
  simp at q0 q1 q2
  go_wp2_with fail
  refine (toCl_any g a b c d rows makes _ (HA.out.on L1.out) (HB.out.on L1.out) s1 S2.out s3).mono ?_
  rintro e w2 ⟨rv1, mv1, us1, rfl, o1, hb⟩
  have B1 := Lib.hid hb
  clear hb
  obtain ⟨⟨ra1, rc1, er1⟩, ma1, mc1, em1⟩ := o1.form
  subst er1 em1
  have O1 := Lib.hid (OwnCl.lower (lo' := w1.heap.size) o1 (by simp))
  clear o1 q0 q1 q2
  go_wp2_with fail
  refine (toI_any tellsa tellsc tells _ (Htells.out.on (Below.on L1.out B1.out)) ctells).mono ?_
  rintro e w3 ⟨iv2, rfl, o2, hb⟩
  have B2 := Lib.hid hb
  clear hb
  have O2 := Lib.hid (own_mono (B' := w2.heap.size) o2 (by simp))
  clear o2
  go_wp2_with fail
  refine (smade_any g (.slice ra1 rows.length rc1) (.slice ma1 makes.length mc1) q iv2 rows makes tells _ (OwnCl.cw (O1.out.on B2.out) s1 S2.out s3) (Ints.of_own O2.out (small ctells))).mono ?_
  rintro e w4 ⟨sv1, tv1, rfl, o0, hb⟩
  have B3 := Lib.hid hb
  clear hb
  rw [HFB.out]
  rw [HQQ.out]
  rw [HFB.out, HSS.out, HTT.out] at o0
  obtain ⟨xa1, xc1, ex1⟩ := Own.form o0.s
  obtain ⟨ya1, yc1, ey1⟩ := Own.form o0.t
  subst ex1 ey1
  have W1 := Lib.hid (OwnW.lower (lo' := w3.heap.size) o0 (by simp))
  clear o0
  have q0 := ((P0.out.on (Below.on B1.out (Below.on B2.out B3.out))).alloc (.cells #[(.slice xa1 SS.length xc1), .int .i64 QQ, (.slice ya1 TT.length yc1)] 50)).cell 0
  have q1 := ((P0.out.on (Below.on B1.out (Below.on B2.out B3.out))).alloc (.cells #[(.slice xa1 SS.length xc1), .int .i64 QQ, (.slice ya1 TT.length yc1)] 50)).cell 1
  have q2 := ((P0.out.on (Below.on B1.out (Below.on B2.out B3.out))).alloc (.cells #[(.slice xa1 SS.length xc1), .int .i64 QQ, (.slice ya1 TT.length yc1)] 50)).cell 2
  simp at q0 q1 q2
  go_wp2_with fail
  refine (toCl_any g a b c d rows makes _ (HA.out.on (Below.on (Below.on L1.out (Below.on B1.out (Below.on B2.out B3.out))) (below_grow _ _))) (HB.out.on (Below.on (Below.on L1.out (Below.on B1.out (Below.on B2.out B3.out))) (below_grow _ _))) s1 S2.out s3).mono ?_
  rintro e w5 ⟨rv3, mv3, us3, rfl, o3, hb⟩
  have B4 := Lib.hid (Below.on (below_grow w4 (.cells #[(.slice xa1 SS.length xc1), .int .i64 QQ, (.slice ya1 TT.length yc1)] 50)) hb)
  have BX1 := Lib.hid ((Box.made w4 [(.slice xa1 SS.length xc1), .int .i64 QQ, (.slice ya1 TT.length yc1)] 50).on hb)
  clear hb
  obtain ⟨⟨ra3, rc3, er3⟩, ma3, mc3, em3⟩ := o3.form
  subst er3 em3
  have O3 := Lib.hid (OwnCl.lower (lo' := (w4.heap.size + 1)) o3 (by simp))
  clear o3 q0 q1 q2
  go_wp2_with fail
  refine (toI_any tellsa tellsc tells _ (Htells.out.on (Below.on (Below.on L1.out (Below.on B1.out (Below.on B2.out (Below.on B3.out B4.out)))) (below_grow _ _))) ctells).mono ?_
  rintro e w6 ⟨iv4, rfl, o4, hb⟩
  have B5 := Lib.hid (Below.on (below_grow w5 (.cells #[.int .i64 g, (.slice ra3 rows.length rc3), (.slice ma3 makes.length mc3)] 35)) hb)
  have XC := Lib.hid ((Box.made w5 [.int .i64 g, (.slice ra3 rows.length rc3), (.slice ma3 makes.length mc3)] 35).on hb)
  clear hb
  have O4 := Lib.hid (own_mono (B' := w5.heap.size) o4 (by simp))
  clear o4
  have e0 := XC.out.cell 0
  have e1 := XC.out.cell 1
  have e2 := XC.out.cell 2
  simp at e0 e1 e2
  go_wp2_with fail
  refine (imade_any g (.slice ra3 rows.length rc3) (.slice ma3 makes.length mc3) q iv4 rows makes tells _ (HG.out.on (Below.on L1.out (Below.on B1.out (Below.on B2.out (Below.on B3.out (Below.on B4.out B5.out)))))) (OwnCl.cw (O3.out.on B5.out) s1 S2.out s3) (Ints.of_own O4.out (small ctells))).mono ?_
  rintro e w7 ⟨sv2, tv2, rfl, o0, hb⟩
  have B6 := Lib.hid hb
  clear hb
  rw [HFB.out]
  rw [HQQ.out]
  rw [HFB.out, HSS.out, HTT.out] at o0
  obtain ⟨xa2, xc2, ex2⟩ := Own.form o0.s
  obtain ⟨ya2, yc2, ey2⟩ := Own.form o0.t
  subst ex2 ey2
  have W2 := Lib.hid (OwnW.lower (lo' := w6.heap.size) o0 (by simp))
  clear o0
  clear e0 e1 e2
  have e0 := ((BX1.out.on (Below.on B5.out B6.out)).alloc (.cells #[(.slice xa2 SS.length xc2), .int .i64 QQ, (.slice ya2 TT.length yc2)] 50)).cell 0
  have e1 := ((BX1.out.on (Below.on B5.out B6.out)).alloc (.cells #[(.slice xa2 SS.length xc2), .int .i64 QQ, (.slice ya2 TT.length yc2)] 50)).cell 1
  have e2 := ((BX1.out.on (Below.on B5.out B6.out)).alloc (.cells #[(.slice xa2 SS.length xc2), .int .i64 QQ, (.slice ya2 TT.length yc2)] 50)).cell 2
  simp at e0 e1 e2
  go_wp2_with fail
  refine (eqw_any QQ (.slice xa2 SS.length xc2) (.slice ya2 TT.length yc2) (.slice xa1 SS.length xc1) (.slice ya1 TT.length yc1) SS TT _ ((Ints.of_own W2.out.s (small3 HSL.out)).below (below_grow _ _)) ((Ints.of_own W2.out.t (small3 HTL.out)).below (below_grow _ _)) ((Ints.of_own (W1.out.on (Below.on B4.out (Below.on B5.out B6.out))).s (small3 HSL.out)).below (below_grow _ _)) ((Ints.of_own (W1.out.on (Below.on B4.out (Below.on B5.out B6.out))).t (small3 HTL.out)).below (below_grow _ _))).mono ?_
  rintro e w8 ⟨rfl, hb⟩
  have B7 := Lib.hid (Below.on (below_grow w7 (.cells #[(.slice xa2 SS.length xc2), .int .i64 QQ, (.slice ya2 TT.length yc2)] 50)) hb)
  have BX2 := Lib.hid ((Box.made w7 [(.slice xa2 SS.length xc2), .int .i64 QQ, (.slice ya2 TT.length yc2)] 50).on hb)
  clear hb
  clear e0 e1 e2
  have HC0 : Hid (∀ w', Below w8.heap.size w8 w' → Box w' w5.heap.size [.int .i64 g, (.slice ra3 rows.length rc3), (.slice ma3 makes.length mc3)] ∧ Box w' w.heap.size [.int .i64 g, .slice a rows.length c, .slice b makes.length d]) := Lib.hid fun w' hb => ⟨(XC.out.on (Below.on B6.out B7.out)).on hb, (P0.out.on (Below.on B1.out (Below.on B2.out (Below.on B3.out (Below.on B4.out (Below.on B5.out (Below.on B6.out B7.out))))))).on hb⟩
  go_wp2_with fail
  apply wp_region_H (Z := Option (Value × Value)) (S := fun k => k == 2 || k == 3 || k == 4) (C := fun z w' => Hid (Below w8.heap.size w8 w' ∧ ∀ r, z = some r → Cw w' r.1 r.2 rows makes)) [0, 1] none
  · kernel_rfl
  · kernel_rfl
  · kernel_rfl
  · exact ⟨rfl, rfl, trivial⟩
  · rfl
  · decide
  · exact Lib.hid ⟨(Below.refl _ _).drew, fun r hr => by cases hr⟩
  · intro z
    dsimp only [pickL, nthO]
    repeat (first | go_big_quiet_skip | (go_big_quiet_want; go_big_quiet_op; first | go_big_quiet_on | (refine ⟨_, fun _ _ => rfl, ?_⟩; go_big_quiet_on)))
    go_big_quiet_want
    go_big_quiet_op
    refine ⟨.agg #[.int .i64 g, (.slice ra3 rows.length rc3), (.slice ma3 makes.length mc3)], fun w' hw' => ?_, ?_⟩
    · have q := (HC0.out w' hw'.out.1).1
      have q0 := q.cell 0; have q1 := q.cell 1; have q2 := q.cell 2
      simp at q0 q1 q2
      simp [go_sem, q0, q1, q2]
    go_big_quiet_on
    repeat (first | go_big_quiet_skip | (go_big_quiet_want; go_big_quiet_op; first | go_big_quiet_on | (refine ⟨_, fun _ _ => rfl, ?_⟩; go_big_quiet_on)))
    go_big_quiet_want
    go_big_quiet_op
    refine ⟨.agg #[.int .i64 g, .slice a rows.length c, .slice b makes.length d], fun w' hw' => ?_, ?_⟩
    · have q := (HC0.out w' hw'.out.1).2
      have q0 := q.cell 0; have q1 := q.cell 1; have q2 := q.cell 2
      simp at q0 q1 q2
      simp [go_sem, q0, q1, q2]
    go_big_quiet_on
    exact wpQuiet_nil rfl
  · refine wpAnyH_call (i := 2) (d := some 58) 18 #[.agg #[.int .i64 g, .slice a rows.length c, .slice b makes.length d]] rfl (by kernel_rfl) rfl rfl (by kernel_rfl) (fun _ => by kernel_rfl) fun wa hc => ?_
    refine (toCl_any g a b c d rows makes _ (HA.out.on (Below.on (Below.on L1.out (Below.on B1.out (Below.on B2.out (Below.on B3.out (Below.on B4.out (Below.on B5.out (Below.on B6.out B7.out))))))) hc.out.1)) (HB.out.on (Below.on (Below.on L1.out (Below.on B1.out (Below.on B2.out (Below.on B3.out (Below.on B4.out (Below.on B5.out (Below.on B6.out B7.out))))))) hc.out.1)) s1 S2.out s3).mono ?_
    rintro e wb ⟨rv9, mv9, us9, rfl, o9, hb⟩
    refine ⟨_, rfl, some (rv9, mv9), Lib.hid ⟨Below.on hc.out.1 hb, fun r hr => by cases hr; exact OwnCl.cw o9 s1 S2.out s3⟩, ?_⟩
    clear o9 hb hc
    refine wpAnyH_call (i := 3) (d := some 59) 20 #[.agg #[.int .i64 g, (.slice ra3 rows.length rc3), (.slice ma3 makes.length mc3)], .agg #[.int .i64 g, rv9, mv9]] rfl (by kernel_rfl) rfl rfl (by kernel_rfl) (fun _ => by kernel_rfl) fun wc hc => ?_
    have k1 := OwnCl.cw ((O3.out.on (Below.on B5.out (Below.on B6.out B7.out))).on hc.out.1) s1 S2.out s3
    have k2 := hc.out.2 _ rfl
    refine (eqcl_any g (.slice ra3 rows.length rc3) (.slice ma3 makes.length mc3) rv9 mv9 rows makes _ k1.rows k1.makes k2.rows k2.makes).mono ?_
    rintro e wd ⟨rfl, hb⟩
    refine ⟨_, rfl, none, Lib.hid ⟨Below.on hc.out.1 hb, fun r hr => by cases hr⟩, ?_⟩
    refine wpAnyH_special (i := 4) (d := some 60) rfl (by kernel_rfl) rfl rfl (by kernel_rfl) fun wy hcy => ⟨.bool false, wy, none, .inl (by kernel_rfl), hcy, ?_⟩
    refine ⟨by kernel_rfl, fun w9 hz => ?_⟩
    have B8 := Lib.hid hz.out.1
    simp only [Act.put]
    clear HC0 hz
    go_wp2_with fail
    refine (toI_any tellsa tellsc tells _ (Htells.out.on (Below.on L1.out (Below.on B1.out (Below.on B2.out (Below.on B3.out (Below.on B4.out (Below.on B5.out (Below.on B6.out (Below.on B7.out B8.out))))))))) ctells).mono ?_
    rintro e w10 ⟨iv5, rfl, o5, hb⟩
    have B9 := Lib.hid hb
    clear hb
    have O5 := Lib.hid (own_mono (B' := w9.heap.size) o5 (by simp))
    clear o5
    go_wp2_with fail
    refine (eqs_sameb iv4 iv5 tells _ (Ints.of_own (own_below O4.out (Below.on B6.out (Below.on B7.out (Below.on B8.out B9.out)))) (small ctells)) (Ints.of_own O5.out (small ctells))).mono ?_
    rintro e w11 ⟨rfl, hb⟩
    have B10 := Lib.hid hb
    clear hb
    have zW : w4.heap.size < w5.heap.size := BX1.out.lt
    have z3b : w5.heap.size ≤ w11.heap.size := ((Below.on B5.out (Below.on B6.out (Below.on B7.out (Below.on B8.out (Below.on B9.out B10.out)))))).size
    have z3a : w4.heap.size ≤ w5.heap.size := (B4.out).size
    have z4b : w6.heap.size ≤ w11.heap.size := ((Below.on B6.out (Below.on B7.out (Below.on B8.out (Below.on B9.out B10.out))))).size
    have z4a : w5.heap.size ≤ w6.heap.size := (B5.out).size
    have y3 : w5.heap.size ≤ w5.heap.size := Nat.le_refl _
    have zX : w6.heap.size ≤ w6.heap.size := Nat.le_refl _
    have zX2 : w6.heap.size ≤ w7.heap.size := (B6.out).size
    have zX3 : w7.heap.size < w11.heap.size := Nat.lt_of_lt_of_le BX2.out.lt ((Below.on B8.out (Below.on B9.out B10.out))).size
    have z0 : w.heap.size < w4.heap.size := Nat.lt_of_lt_of_le P0.out.lt ((Below.on B1.out (Below.on B2.out B3.out))).size
    have VLs := Lib.hid (fun k hk => ((W1.out).s.lt k hk).2)
    have VLt := Lib.hid (fun k hk => ((W1.out).t.lt k hk).2)
    have hsz : w5.heap.size ≤ w11.heap.size := by omega
    have q0 := (XC.out.on (Below.on B6.out (Below.on B7.out (Below.on B8.out (Below.on B9.out B10.out))))).cell 0
    have q1 := (XC.out.on (Below.on B6.out (Below.on B7.out (Below.on B8.out (Below.on B9.out B10.out))))).cell 1
    have q2 := (XC.out.on (Below.on B6.out (Below.on B7.out (Below.on B8.out (Below.on B9.out B10.out))))).cell 2
    simp at q0 q1 q2
    go_wp2_with fail
    refine (markcl_any g (.slice ra3 rows.length rc3) (.slice ma3 makes.length mc3) us3 rows makes 1 (w4.heap.size + 1) w5.heap.size _ (O3.out.on (Below.on B5.out (Below.on B6.out (Below.on B7.out (Below.on B8.out (Below.on B9.out B10.out)))))) hsz (by omega) (fun j hj => by have := S2.out j hj; omega) (by omega) (by omega) (by omega)).mono ?_
    rintro e w12 ⟨rfl, out⟩
    obtain ⟨K0, hK⟩ : ∃ K : Int, 1 + (cnt rows rows.length : Int) + makes.length = K := ⟨_, rfl⟩
    have K0a : 0 ≤ K0 := by omega
    have K0b : K0 ≤ 2100000 := by omega
    rw [hK]
    clear hK q0 q1 q2
    have ob := out.below (show (w4.heap.size + 1) ≤ w11.heap.size by omega)
    have os12 := out.size
    have LM0 := Lib.hid ((Below.on L1.out (Below.on B1.out (Below.on B2.out (Below.on B3.out (Below.on B4.out (Below.on B5.out (Below.on B6.out (Below.on B7.out (Below.on B8.out (Below.on B9.out B10.out)))))))))).trans (ob.mono (show w.heap.size ≤ (w4.heap.size + 1) by omega)))
    have PM0 := Lib.hid ((P0.out.on (Below.on B1.out (Below.on B2.out (Below.on B3.out (Below.on B4.out (Below.on B5.out (Below.on B6.out (Below.on B7.out (Below.on B8.out (Below.on B9.out B10.out)))))))))).low ob (by omega))
    have WM0 := Lib.hid (OwnW.near out (W1.out.on (Below.on B4.out (Below.on B5.out (Below.on B6.out (Below.on B7.out (Below.on B8.out (Below.on B9.out B10.out))))))) (fun k hk => by have := VLs.out k hk; omega) (fun k hk => by have := VLt.out k hk; omega))
    have WB0 := Lib.hid ((BX1.out.on (Below.on B5.out (Below.on B6.out (Below.on B7.out (Below.on B8.out (Below.on B9.out B10.out)))))).low ob (by omega))
    have XM0 := Lib.hid (OwnW.far out (W2.out.on (Below.on B7.out (Below.on B8.out (Below.on B9.out B10.out)))) (by omega))
    have XB0 := Lib.hid (out.box (BX2.out.on (Below.on B8.out (Below.on B9.out B10.out))) (by omega))
    have O4M0 := Lib.hid (out.own (own_below O4.out (Below.on B6.out (Below.on B7.out (Below.on B8.out (Below.on B9.out B10.out))))) (by omega))
    clear out ob
    clear hsz
    have hsz : w6.heap.size ≤ w12.heap.size := by omega
    go_wp2_with fail
    refine (markI_any iv4 tells _ w5.heap.size _ O4M0.out (by omega) (by omega) (by omega)).mono ?_
    rintro e w13 ⟨rfl, _, gr⟩
    have out := Outside.of_grown (lo := w5.heap.size) (hi := w6.heap.size) gr fun k hk => ⟨(O4M0.out.lt k hk).1, (O4.out.lt k hk).2⟩
    clear gr
    obtain ⟨K1, hK⟩ : ∃ K : Int, K0 + (tells.length : Int) = K := ⟨_, rfl⟩
    have K1a : 0 ≤ K1 := by omega
    have K1b : K1 ≤ 3200000 := by omega
    rw [hK]
    clear hK
    have ob := out.below (show w5.heap.size ≤ w12.heap.size by omega)
    have os13 := out.size
    have LM1 := Lib.hid (LM0.out.trans (ob.mono (show w.heap.size ≤ w5.heap.size by omega)))
    have PM1 := Lib.hid (PM0.out.low ob (by omega))
    have WM1 := Lib.hid (OwnW.near out WM0.out (fun k hk => by have := VLs.out k hk; omega) (fun k hk => by have := VLt.out k hk; omega))
    have WB1 := Lib.hid (WB0.out.low ob (by omega))
    have XM1 := Lib.hid (OwnW.far out XM0.out (by omega))
    have XB1 := Lib.hid (out.box XB0.out (by omega))
    clear out ob
    clear hsz
    have e0 := WB1.out.cell 0
    have e1 := WB1.out.cell 1
    have e2 := WB1.out.cell 2
    simp at e0 e1 e2
    have y0 := XB1.out.cell 0
    have y1 := XB1.out.cell 1
    have y2 := XB1.out.cell 2
    simp at y0 y1 y2
    go_wp2_with fail
    refine (eqw_any QQ (.slice xa2 SS.length xc2) (.slice ya2 TT.length yc2) (.slice xa1 SS.length xc1) (.slice ya1 TT.length yc1) SS TT _ (Ints.of_own XM1.out.s (small3 HSL.out)) (Ints.of_own XM1.out.t (small3 HTL.out)) (Ints.of_own WM1.out.s (small3 HSL.out)) (Ints.of_own WM1.out.t (small3 HTL.out))).mono ?_
    rintro e w14 ⟨rfl, hb⟩
    have B13 := Lib.hid hb
    clear hb
    clear e0 e1 e2 y0 y1 y2
    have hsl := HSL.out
    have htl := HTL.out
    have hsz : w7.heap.size ≤ w14.heap.size := by have := (B13.out).size; omega
    have q0 := (XB1.out.on B13.out).cell 0
    have q1 := (XB1.out.on B13.out).cell 1
    have q2 := (XB1.out.on B13.out).cell 2
    simp at q0 q1 q2
    go_wp2_with fail
    refine (markw_any QQ (.slice xa2 SS.length xc2) (.slice ya2 TT.length yc2) SS TT 1 w6.heap.size w7.heap.size _ (XM1.out.on B13.out) hsz (by omega) (by omega) (by omega) (by omega)).mono ?_
    rintro e w15 ⟨rfl, og, out⟩
    clear q0 q1 q2
    have XQ := Lib.hid og
    clear og
    have ob := out.below (show w6.heap.size ≤ w14.heap.size by omega)
    have os15 := out.size
    have LM7 := Lib.hid ((Below.on LM1.out B13.out).trans (ob.mono (show w.heap.size ≤ w6.heap.size by omega)))
    have PM7 := Lib.hid ((PM1.out.on B13.out).low ob (by omega))
    have WM7 := Lib.hid (OwnW.near out (WM1.out.on B13.out) (fun k hk => by have := VLs.out k hk; omega) (fun k hk => by have := VLt.out k hk; omega))
    have WB7 := Lib.hid ((WB1.out.on B13.out).low ob (by omega))
    have XB7 := Lib.hid (out.box (XB1.out.on B13.out) (by omega))
    clear out ob
    clear hsz
    have hne : ((1 + (SS.length : Int) + (TT.length : Int)) != (1 + (SS.length : Int) + (TT.length : Int))) = false := by simp
    have q0 := XB7.out.cell 0
    have q1 := XB7.out.cell 1
    have q2 := XB7.out.cell 2
    simp at q0 q1 q2
    go_wp2_with fail
    refine (heldw_is QQ (.slice xa2 SS.length xc2) (.slice ya2 TT.length yc2) SS TT _ XQ.out (by omega) (by omega)).mono ?_
    rintro e w16 ⟨rfl, hb⟩
    have B15 := Lib.hid hb
    clear hb
    clear q0 q1 q2
    have q0 := (PM7.out.on B15.out).cell 0
    have q1 := (PM7.out.on B15.out).cell 1
    have q2 := (PM7.out.on B15.out).cell 2
    simp at q0 q1 q2
    go_wp2_with fail
    refine (toCl_any g a b c d rows makes _ (HA.out.on (Below.on LM7.out B15.out)) (HB.out.on (Below.on LM7.out B15.out)) s1 S2.out s3).mono ?_
    rintro e w17 ⟨rv6, mv6, us6, rfl, o6, hb⟩
    have B16 := Lib.hid hb
    clear hb
    obtain ⟨⟨ra6, rc6, er6⟩, ma6, mc6, em6⟩ := o6.form
    subst er6 em6
    have O6 := Lib.hid (OwnCl.lower (lo' := w16.heap.size) o6 (by simp))
    clear o6 q0 q1 q2
    go_wp2_with fail
    refine (toI_any tellsa tellsc tells _ (Htells.out.on (Below.on LM7.out (Below.on B15.out B16.out))) ctells).mono ?_
    rintro e w18 ⟨iv7, rfl, o7, hb⟩
    have B17 := Lib.hid hb
    clear hb
    have O7 := Lib.hid (own_mono (B' := w17.heap.size) o7 (by simp))
    clear o7
    go_wp2_with fail
    refine (imade_any g (.slice ra6 rows.length rc6) (.slice ma6 makes.length mc6) q iv7 rows makes tells _ (HG.out.on (Below.on LM7.out (Below.on B15.out (Below.on B16.out B17.out)))) (OwnCl.cw (O6.out.on B17.out) s1 S2.out s3) (Ints.of_own O7.out (small ctells))).mono ?_
    rintro e w19 ⟨sv3, tv3, rfl, o0, hb⟩
    have B18 := Lib.hid hb
    clear hb
    rw [HFB.out]
    rw [HQQ.out]
    rw [HFB.out, HSS.out, HTT.out] at o0
    obtain ⟨xa3, xc3, ex3⟩ := Own.form o0.s
    obtain ⟨ya3, yc3, ey3⟩ := Own.form o0.t
    subst ex3 ey3
    have W3 := Lib.hid (OwnW.lower (lo' := w18.heap.size) o0 (by simp))
    clear o0
    have e0 := ((WB7.out.on (Below.on B15.out (Below.on B16.out (Below.on B17.out B18.out)))).alloc (.cells #[(.slice xa3 SS.length xc3), .int .i64 QQ, (.slice ya3 TT.length yc3)] 50)).cell 0
    have e1 := ((WB7.out.on (Below.on B15.out (Below.on B16.out (Below.on B17.out B18.out)))).alloc (.cells #[(.slice xa3 SS.length xc3), .int .i64 QQ, (.slice ya3 TT.length yc3)] 50)).cell 1
    have e2 := ((WB7.out.on (Below.on B15.out (Below.on B16.out (Below.on B17.out B18.out)))).alloc (.cells #[(.slice xa3 SS.length xc3), .int .i64 QQ, (.slice ya3 TT.length yc3)] 50)).cell 2
    simp at e0 e1 e2
    go_wp2_with fail
    refine (eqw_any QQ (.slice xa3 SS.length xc3) (.slice ya3 TT.length yc3) (.slice xa1 SS.length xc1) (.slice ya1 TT.length yc1) SS TT _ ((Ints.of_own W3.out.s (small3 HSL.out)).below (below_grow _ _)) ((Ints.of_own W3.out.t (small3 HTL.out)).below (below_grow _ _)) ((Ints.of_own (WM7.out.on (Below.on B15.out (Below.on B16.out (Below.on B17.out B18.out)))).s (small3 HSL.out)).below (below_grow _ _)) ((Ints.of_own (WM7.out.on (Below.on B15.out (Below.on B16.out (Below.on B17.out B18.out)))).t (small3 HTL.out)).below (below_grow _ _))).mono ?_
    rintro e w20 ⟨rfl, hb⟩
    have B19 := Lib.hid (Below.on (below_grow w19 (.cells #[(.slice xa3 SS.length xc3), .int .i64 QQ, (.slice ya3 TT.length yc3)] 50)) hb)
    have BX3 := Lib.hid ((Box.made w19 [(.slice xa3 SS.length xc3), .int .i64 QQ, (.slice ya3 TT.length yc3)] 50).on hb)
    clear hb
    clear e0 e1 e2
    have q0 := (XB7.out.on (Below.on B15.out (Below.on B16.out (Below.on B17.out (Below.on B18.out B19.out))))).cell 0
    have q1 := (XB7.out.on (Below.on B15.out (Below.on B16.out (Below.on B17.out (Below.on B18.out B19.out))))).cell 1
    have q2 := (XB7.out.on (Below.on B15.out (Below.on B16.out (Below.on B17.out (Below.on B18.out B19.out))))).cell 2
    simp at q0 q1 q2
    go_wp2_with fail
    refine (heldw_is QQ (.slice xa2 SS.length xc2) (.slice ya2 TT.length yc2) SS TT _ (XQ.out.on (Below.on B15.out (Below.on B16.out (Below.on B17.out (Below.on B18.out B19.out))))) (by omega) (by omega)).mono ?_
    rintro e w21 ⟨rfl, hb⟩
    have B20 := Lib.hid hb
    clear hb
    clear q0 q1 q2
    go_wp2
    go_ret
    exact ⟨rfl, (Below.on LM7.out (Below.on B15.out (Below.on B16.out (Below.on B17.out (Below.on B18.out (Below.on B19.out B20.out))))))⟩
end Go.Proofs.YtopjlbihhbjhnaaDoor
