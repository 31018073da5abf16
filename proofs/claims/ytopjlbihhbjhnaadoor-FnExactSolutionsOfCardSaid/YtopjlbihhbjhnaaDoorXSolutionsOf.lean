/- The exact law of SolutionsOf, walked: spec's answer, impl's answer, and that both are the same; no argument is written to; the answer owns its memory. -/
import Derived.Test.YtopjlbihhbjhnaaDoorMarkR
namespace Go.Proofs.YtopjlbihhbjhnaaDoor
open Go.RowKit

set_option maxHeartbeats 6400000 in
theorem xSolutionsOf_walk (g : Int) (a : Option Addr) (c : Nat) (rows : List (List Int)) (b : Option Addr) (d : Nat) (makes : List Int) (w : World) (G : Gr w) (ha : ArgSS w a rows) (hb : ArgI w b makes) (hn : rows.length ≤ maxLen) (hr : ∀ j, j < rows.length → (row rows j).length ≤ maxLen) (hm : makes.length ≤ maxLen) :
    Calls Tryd.prog 7 #[.agg #[.int .i64 g, .slice a rows.length c, .slice b makes.length d]] w fun e w' => e = .returned (.bool true) ∧ Below w.heap.size w w' := by
  have HG := Lib.hid G
  have HA := Lib.hid ha
  have HB := Lib.hid hb
  have HR := Lib.hid hr
  obtain ⟨xss, hxs⟩ : ∃ xss, sols g rows makes = xss := ⟨_, rfl⟩
  have HXL : Hid (xss.length ≤ 600) := Lib.hid (by rw [← hxs]; exact sols_len _ _ _)
  have HXR : Hid (∀ j, j < xss.length → (row xss j).length ≤ 2) := Lib.hid (by rw [← hxs]; exact sols_row _ _ _)
  have HXS := Lib.hid hxs
  clear hxs
  unfold maxLen at hn hm
  clear ha hb hr G
  go_enter Tryd.func7, Tryd.ntmps7
  go_wp2_with fail
  refine (szcl_any g a b c d rows makes 1048576 _ (HA.out.on (below_grow _ _)) hn HR.out hm (by omega) (by omega)).mono ?_
  rintro e w1 ⟨r, rfl, hb, hres⟩
  obtain ⟨p0, l1⟩ := boxes1 hb
  have P0 := Lib.hid p0
  have L1 := Lib.hid l1
  clear hb l1 p0
  rcases hres with rfl | ⟨r0, r1, s1, s2, s3, s4⟩
  · go_wp2
    go_ret
    exact ⟨rfl, L1.out⟩
  have S2 := Lib.hid s2
  clear s2
  have q0 := P0.out.cell 0
  have q1 := P0.out.cell 1
  have q2 := P0.out.cell 2
  simp at q0 q1 q2
  go_wp2_with fail
  refine (toCl_any g a b c d rows makes _ (HA.out.on L1.out) (HB.out.on L1.out) s1 S2.out s3).mono ?_
  rintro e w2 ⟨rv1, mv1, us1, rfl, o1, hb⟩
  have B1 := Lib.hid hb
  clear hb
  obtain ⟨⟨ra1, rc1, er1⟩, ma1, mc1, em1⟩ := o1.form
  subst er1 em1
  have O1 := Lib.hid o1
  clear o1 q0 q1 q2
  go_wp2_with fail
  refine (ssols_any g (.slice ra1 rows.length rc1) (.slice ma1 makes.length mc1) rows makes _ (OwnCl.cw O1.out s1 S2.out s3)).mono ?_
  rintro e w3 ⟨v0, us0, rfl, o0, hb⟩
  have B2 := Lib.hid hb
  clear hb
  rw [HXS.out] at o0
  have OV := Lib.hid o0
  clear o0
  have q0 := (P0.out.on (Below.on B1.out B2.out)).cell 0
  have q1 := (P0.out.on (Below.on B1.out B2.out)).cell 1
  have q2 := (P0.out.on (Below.on B1.out B2.out)).cell 2
  simp at q0 q1 q2
  go_wp2_with fail
  refine (toCl_any g a b c d rows makes _ (HA.out.on (Below.on L1.out (Below.on B1.out B2.out))) (HB.out.on (Below.on L1.out (Below.on B1.out B2.out))) s1 S2.out s3).mono ?_
  rintro e w4 ⟨rv2, mv2, us2, rfl, o2, hb⟩
  have B3 := Lib.hid hb
  clear hb
  obtain ⟨⟨ra2, rc2, er2⟩, ma2, mc2, em2⟩ := o2.form
  subst er2 em2
  have O2 := Lib.hid o2
  clear o2 q0 q1 q2
  go_wp2_with fail
  refine (isols_any g (.slice ra2 rows.length rc2) (.slice ma2 makes.length mc2) rows makes _ (HG.out.on (Below.on (Below.on L1.out (Below.on B1.out (Below.on B2.out B3.out))) (below_grow _ _))) ((OwnCl.cw O2.out s1 S2.out s3).on (below_grow _ _))).mono ?_
  rintro e w5 ⟨g1, ug1, rfl, o0, hb⟩
  have B4 := Lib.hid (Below.on (below_grow w4 (.cells #[.int .i64 g, (.slice ra2 rows.length rc2), (.slice ma2 makes.length mc2)] 35)) hb)
  have X2 := Lib.hid ((Box.made w4 [.int .i64 g, (.slice ra2 rows.length rc2), (.slice ma2 makes.length mc2)] 35).on hb)
  clear hb
  rw [HXS.out] at o0
  have OG1 := Lib.hid o0
  clear o0
  go_wp2_with fail
  refine (eqss_any g1 v0 xss _ (ssOf HXL.out HXR.out OG1.out) (ssOf HXL.out HXR.out (OV.out.on (Below.on B3.out B4.out)))).mono ?_
  rintro e w6 ⟨rfl, m, hw⟩
  have B5 := Lib.hid (below_of_drew hw)
  clear hw m
  have HC0 : Hid (∀ w', Below w6.heap.size w6 w' → Box w' w4.heap.size [.int .i64 g, (.slice ra2 rows.length rc2), (.slice ma2 makes.length mc2)] ∧ Box w' w.heap.size [.int .i64 g, .slice a rows.length c, .slice b makes.length d]) := Lib.hid fun w' hb => ⟨(X2.out.on B5.out).on hb, (P0.out.on (Below.on B1.out (Below.on B2.out (Below.on B3.out (Below.on B4.out B5.out))))).on hb⟩
  go_wp2_with fail
  apply wp_region_H (Z := Option (Value × Value)) (S := fun k => k == 2 || k == 3 || k == 4) (C := fun z w' => Hid (Below w6.heap.size w6 w' ∧ ∀ r, z = some r → Cw w' r.1 r.2 rows makes)) [0, 1] none
  · kernel_rfl
  · kernel_rfl
  · kernel_rfl
  · exact ⟨rfl, rfl, trivial⟩
  · rfl
  · decide
  · exact Lib.hid ⟨(Below.refl _ _).drew, fun r hr => by cases hr⟩
  · intro z
    dsimp only [pickL, nthO]
    repeat (first | go_big_quiet_skip | (go_big_quiet_want; go_big_quiet_op; first | go_big_quiet_on | (refine ⟨_, fun _ _ => rfl, ?_⟩; go_big_quiet_on)))
    go_big_quiet_want
    go_big_quiet_op
    refine ⟨.agg #[.int .i64 g, (.slice ra2 rows.length rc2), (.slice ma2 makes.length mc2)], fun w' hw' => ?_, ?_⟩
    · have q := (HC0.out w' hw'.out.1).1
      have q0 := q.cell 0; have q1 := q.cell 1; have q2 := q.cell 2
      simp at q0 q1 q2
      simp [go_sem, q0, q1, q2]
    go_big_quiet_on
    repeat (first | go_big_quiet_skip | (go_big_quiet_want; go_big_quiet_op; first | go_big_quiet_on | (refine ⟨_, fun _ _ => rfl, ?_⟩; go_big_quiet_on)))
    go_big_quiet_want
    go_big_quiet_op
    refine ⟨.agg #[.int .i64 g, .slice a rows.length c, .slice b makes.length d], fun w' hw' => ?_, ?_⟩
    · have q := (HC0.out w' hw'.out.1).2
      have q0 := q.cell 0; have q1 := q.cell 1; have q2 := q.cell 2
      simp at q0 q1 q2
      simp [go_sem, q0, q1, q2]
    go_big_quiet_on
    exact wpQuiet_nil rfl
  · refine wpAnyH_call (i := 2) (d := some 29) 18 #[.agg #[.int .i64 g, .slice a rows.length c, .slice b makes.length d]] rfl (by kernel_rfl) rfl rfl (by kernel_rfl) (fun _ => by kernel_rfl) fun wa hc => ?_
    refine (toCl_any g a b c d rows makes _ (HA.out.on (Below.on (Below.on L1.out (Below.on B1.out (Below.on B2.out (Below.on B3.out (Below.on B4.out B5.out))))) hc.out.1)) (HB.out.on (Below.on (Below.on L1.out (Below.on B1.out (Below.on B2.out (Below.on B3.out (Below.on B4.out B5.out))))) hc.out.1)) s1 S2.out s3).mono ?_
    rintro e wb ⟨rv3, mv3, us3, rfl, o3, hb⟩
    refine ⟨_, rfl, some (rv3, mv3), Lib.hid ⟨Below.on hc.out.1 hb, fun r hr => by cases hr; exact OwnCl.cw o3 s1 S2.out s3⟩, ?_⟩
    clear o3 hb hc
    refine wpAnyH_call (i := 3) (d := some 30) 20 #[.agg #[.int .i64 g, (.slice ra2 rows.length rc2), (.slice ma2 makes.length mc2)], .agg #[.int .i64 g, rv3, mv3]] rfl (by kernel_rfl) rfl rfl (by kernel_rfl) (fun _ => by kernel_rfl) fun wc hc => ?_
    have k1 := OwnCl.cw ((O2.out.on (Below.on B4.out B5.out)).on hc.out.1) s1 S2.out s3
    have k2 := hc.out.2 _ rfl
    refine (eqcl_any g (.slice ra2 rows.length rc2) (.slice ma2 makes.length mc2) rv3 mv3 rows makes _ k1.rows k1.makes k2.rows k2.makes).mono ?_
    rintro e wd ⟨rfl, hb⟩
    refine ⟨_, rfl, none, Lib.hid ⟨Below.on hc.out.1 hb, fun r hr => by cases hr⟩, ?_⟩
    refine wpAnyH_special (i := 4) (d := some 31) rfl (by kernel_rfl) rfl rfl (by kernel_rfl) fun wy hcy => ⟨.bool false, wy, none, .inl (by kernel_rfl), hcy, ?_⟩
    refine ⟨by kernel_rfl, fun w7 hz => ?_⟩
    have B6 := Lib.hid hz.out.1
    simp only [Act.put]
    clear HC0 hz
    have z1a : w3.heap.size ≤ w4.heap.size := (B3.out).size
    have z1b : w4.heap.size ≤ w7.heap.size := ((Below.on B4.out (Below.on B5.out B6.out))).size
    have z0 : w.heap.size < w3.heap.size := Nat.lt_of_lt_of_le P0.out.lt ((Below.on B1.out B2.out)).size
    have zv : w3.heap.size ≤ w3.heap.size := (Nat.le_refl _)
    have GB : w4.heap.size ≤ (w4.alloc (.cells #[.int .i64 g, (.slice ra2 rows.length rc2), (.slice ma2 makes.length mc2)] 35)).heap.size := by first | (simp; done) | (simp; have := Nat.le_refl w4.heap.size; omega)
    have q0 := (X2.out.on (Below.on B5.out B6.out)).cell 0
    have q1 := (X2.out.on (Below.on B5.out B6.out)).cell 1
    have q2 := (X2.out.on (Below.on B5.out B6.out)).cell 2
    simp at q0 q1 q2
    have hsz : w4.heap.size ≤ w7.heap.size := by omega
    go_wp2_with fail
    refine (markcl_any g (.slice ra2 rows.length rc2) (.slice ma2 makes.length mc2) us2 rows makes 1 w3.heap.size w4.heap.size _ (O2.out.on (Below.on B4.out (Below.on B5.out B6.out))) hsz (by omega) (fun j hj => by have := S2.out j hj; omega) (by omega) (by omega) (by omega)).mono ?_
    rintro e w8 ⟨rfl, out⟩
    obtain ⟨K0, hK0⟩ : ∃ K : Int, 1 + (cnt rows rows.length : Int) + makes.length = K := ⟨_, rfl⟩
    have K0a : 0 ≤ K0 := by omega
    have K0b : K0 ≤ 2100000 := by omega
    rw [hK0]
    clear hK0 q0 q1 q2
    have ob := out.below (show w3.heap.size ≤ w7.heap.size by omega)
    have LM := Lib.hid ((Below.on L1.out (Below.on B1.out (Below.on B2.out (Below.on B3.out (Below.on B4.out (Below.on B5.out B6.out)))))).trans (ob.mono (show w.heap.size ≤ w3.heap.size by omega)))
    have PM := Lib.hid ((P0.out.on (Below.on B1.out (Below.on B2.out (Below.on B3.out (Below.on B4.out (Below.on B5.out B6.out)))))).low ob (Nat.lt_of_lt_of_le P0.out.lt (by have := ((Below.on B1.out B2.out)).size; omega)))
    have VM := Lib.hid (OwnSS.lowSS (OV.out.on (Below.on B3.out (Below.on B4.out (Below.on B5.out B6.out)))) out (by omega) (by omega))
    have GM := Lib.hid (out.ownSS (OG1.out.on (Below.on B5.out B6.out)) (by omega))
    have z2 : w7.heap.size ≤ w8.heap.size := out.size
    clear out ob hsz
    go_wp2_with fail
    refine (eqss_any g1 v0 xss _ (ssOf HXL.out HXR.out GM.out) (ssOf HXL.out HXR.out VM.out)).mono ?_
    rintro e w9 ⟨rfl, m, hw⟩
    have B8 := Lib.hid (below_of_drew hw)
    clear hw m
    have hxl := HXL.out
    have hxc := cnt_le2 xss _ HXR.out
    go_wp2_with fail
    refine (markSS_any g1 ug1 xss 1 ((w4.alloc (.cells #[.int .i64 g, (.slice ra2 rows.length rc2), (.slice ma2 makes.length mc2)] 35)).heap.size) w5.heap.size _ (GM.out.on B8.out) (by omega) (fun j hj => by have := HXR.out j hj; omega) (by omega) (by omega)).mono ?_
    rintro e w10 ⟨rfl, og, out⟩
    have hbs : (w4.alloc (.cells #[.int .i64 g, (.slice ra2 rows.length rc2), (.slice ma2 makes.length mc2)] 35)).heap.size ≤ w9.heap.size := by have h1 := X2.out.lt; have h2 : w5.heap.size ≤ w7.heap.size := ((Below.on B5.out B6.out)).size; have h3 : w8.heap.size ≤ w9.heap.size := (B8.out).size; simp; omega
    have ob := out.below hbs
    have hzz : w.heap.size ≤ (w4.alloc (.cells #[.int .i64 g, (.slice ra2 rows.length rc2), (.slice ma2 makes.length mc2)] 35)).heap.size := by omega
    have hkk : w8.heap.size ≤ w9.heap.size := (B8.out).size
    have LQ := Lib.hid ((Below.on LM.out B8.out).trans (ob.mono hzz))
    have PQ := Lib.hid ((PM.out.on B8.out).low ob (Nat.lt_of_lt_of_le P0.out.lt (by have := ((Below.on B1.out B2.out)).size; omega)))
    have VQ := Lib.hid (OwnSS.lowSS (VM.out.on B8.out) out (by omega) (by omega))
    have GQ := Lib.hid og
    obtain ⟨KC, hKC⟩ : ∃ KC : Int, (1 : Int) + (cnt xss xss.length : Int) = KC := ⟨_, rfl⟩
    have HKC := Lib.hid hKC
    rw [hKC]
    have kc0 : 0 ≤ KC := by omega
    have kc1 : KC ≤ 100000 := by omega
    clear out ob og hbs hzz hkk hxc hKC
    have hne : (KC != KC) = false := by simp
    go_wp2_with fail
    refine (held_marked HXL.out HXR.out GQ.out).mono ?_
    rintro e wh ⟨rfl, rfl⟩
    rw [HKC.out]
    have q0 := PQ.out.cell 0
    have q1 := PQ.out.cell 1
    have q2 := PQ.out.cell 2
    simp at q0 q1 q2
    go_wp2_with fail
    refine (toCl_any g a b c d rows makes _ (HA.out.on LQ.out) (HB.out.on LQ.out) s1 S2.out s3).mono ?_
    rintro e w11 ⟨rv4, mv4, us4, rfl, o4, hb⟩
    have B10 := Lib.hid hb
    clear hb
    obtain ⟨⟨ra4, rc4, er4⟩, ma4, mc4, em4⟩ := o4.form
    subst er4 em4
    have O4 := Lib.hid o4
    clear o4 q0 q1 q2
    go_wp2_with fail
    refine (isols_any g (.slice ra4 rows.length rc4) (.slice ma4 makes.length mc4) rows makes _ (HG.out.on (Below.on LQ.out B10.out)) (OwnCl.cw O4.out s1 S2.out s3)).mono ?_
    rintro e w12 ⟨g2, ug2, rfl, o0, hb⟩
    have B11 := Lib.hid hb
    clear hb
    rw [HXS.out] at o0
    have OG2 := Lib.hid o0
    clear o0
    go_wp2_with fail
    refine (eqss_any g2 v0 xss _ (ssOf HXL.out HXR.out OG2.out) (ssOf HXL.out HXR.out (VQ.out.on (Below.on B10.out B11.out)))).mono ?_
    rintro e w13 ⟨rfl, m, hw⟩
    have B12 := Lib.hid (below_of_drew hw)
    clear hw m
    go_wp2_with fail
    refine (held_marked HXL.out HXR.out (GQ.out.on (Below.on B10.out (Below.on B11.out B12.out)))).mono ?_
    rintro e wh ⟨rfl, rfl⟩
    rw [HKC.out]
    go_wp2
    go_ret
    exact ⟨rfl, (Below.on LQ.out (Below.on B10.out (Below.on B11.out B12.out)))⟩
end Go.Proofs.YtopjlbihhbjhnaaDoor
