/- The exact law of KeysOn, walked: spec's answer, impl's answer, and that both are the same; no argument is written to; the answer owns its memory. -/
import Derived.Test.YtiinifcepcaonaaDoorLekI
import Derived.Test.YtiinifcepcaonaaDoorLekS
import Derived.Test.YtiinifcepcaonaaDoorNtC
import Derived.Test.YtiinifcepcaonaaDoorBSol
import Derived.Deep.Cut
namespace Go.Proofs.YtiinifcepcaonaaDoor
open Go.RowKit

set_option maxRecDepth 100000 in
set_option maxHeartbeats 12800000 in
theorem xKeysOn_walk (p0 : Int) (a0 : Option Addr) (c0 : Nat) (x0 : List Nt) (w : World) (G : Gr w) (h0 : ArgN w a0 x0) (m0 : x0.length ≤ maxLen) :
    Calls Tryd.prog 4 #[.agg #[.int .i64 p0, .slice a0 x0.length c0]] w fun e w' => e = .returned (.bool true) ∧ Below w.heap.size w w' := by
  have HGR := Lib.hid G
  clear G
  have HA0 := Lib.hid h0
  clear h0
  obtain ⟨XS, hXS⟩ : ∃ r, konL p0 x0 = r := ⟨_, rfl⟩
  have HXL : Hid (XS.length ≤ maxLen) := Lib.hid (by rw [← hXS]; exact Nat.le_trans (konL_len p0 x0) (by unfold maxLen; omega))
  have HXM : Hid (XS.length ≤ 1000) := Lib.hid (by rw [← hXS]; exact Nat.le_trans (konL_len p0 x0) (by omega))
  have HXS := Lib.hid hXS
  clear hXS
  have HM0 := Lib.hid m0
  clear m0
  have SS0 : Hid (Sx w [] [] w) := Lib.hid (Sx.start w)
  have SS1 : Hid (Sx w [(w.heap.size, [.int .i64 p0, .slice a0 x0.length c0])] [] (w.alloc (.cells #[.int .i64 p0, .slice a0 x0.length c0] 24))) := Lib.hid (SS0.out.made [.int .i64 p0, .slice a0 x0.length c0] 24)
  clear SS0
  obtain ⟨w1, hw1⟩ : ∃ z, z = (w.alloc (.cells #[.int .i64 p0, .slice a0 x0.length c0] 24)) := ⟨_, rfl⟩
  have S1 : Hid (Sx w [(w.heap.size, [.int .i64 p0, .slice a0 x0.length c0])] [] w1) := Lib.hid (by rw [hw1]; exact SS1.out)
  have Z1 : Hid (w1.heap.size = w.heap.size + 1) := Lib.hid (by rw [hw1]; simp)
  have Hw1 := Lib.hid hw1
  clear hw1 SS1
  go_enter Tryd.func4, Tryd.ntmps4
  go_wp2_with fail
  rw [← Hw1.out]
  refine (szbd_any p0 a0 x0.length c0 1048576 _ HM0.out (by omega) (by omega)).mono ?_
  rintro e w2 ⟨r0, rfl, hb, hres⟩
  have S2 := Lib.hid (S1.out.on hb)
  clear S1
  have Z2 : Hid (w1.heap.size ≤ w2.heap.size) := Lib.hid (hb.size)
  clear hb
  rcases hres with rfl | ⟨ra0, rb0, s0⟩
  · go_wp2
    go_ret
    exact ⟨rfl, S2.out.be⟩
  have rc0 : r0 ≤ 1048576 := by omega
  have qH0_0 := (S2.out.bx _ (.head _)).cell 0
  have qH0_1 := (S2.out.bx _ (.head _)).cell 1
  simp at qH0_0 qH0_1
  go_wp2_with fail
  refine (tobd_any p0 a0 c0 x0 _ (HA0.out.on S2.out.be) s0).mono ?_
  rintro e w3 ⟨v9, rfl, oo, hb⟩
  clear qH0_0 qH0_1
  have S3 := Lib.hid (S2.out.on hb)
  clear S2
  have hz := hb.size
  obtain ⟨Azc0, Czc0, ef⟩ := OwnN.form oo
  subst ef
  have S4 := Lib.hid (S3.out.add (Hl.mkN oo))
  clear S3
  have Z3 : Hid (w2.heap.size ≤ w3.heap.size) := Lib.hid (hz)
  clear hb oo hz
  go_wp2_with fail
  refine (skon_any p0 _ x0 _ (Nts.of_own (S4.out.ls _ (.head _)).1.1 (small20 s0)) (Nat.le_trans s0 (by omega))).mono ?_
  rintro e w4 ⟨v9, rfl, oo, hb⟩
  try rw [HXS.out] at oo
  have S5 := Lib.hid (S4.out.on hb)
  clear S4
  have hz := hb.size
  obtain ⟨Azr, Czr, ef⟩ := Own.form oo
  subst ef
  have S6 := Lib.hid (S5.out.add (Hl.mk1 oo))
  clear S5
  clear oo
  have Z4 : Hid (w3.heap.size ≤ w4.heap.size) := Lib.hid (hz)
  clear hb hz
  have qH0_0 := (S6.out.bx _ (.head _)).cell 0
  have qH0_1 := (S6.out.bx _ (.head _)).cell 1
  simp at qH0_0 qH0_1
  go_wp2_with fail
  refine (tobd_any p0 a0 c0 x0 _ (HA0.out.on S6.out.be) s0).mono ?_
  rintro e w5 ⟨v9, rfl, oo, hb⟩
  clear qH0_0 qH0_1
  have S7 := Lib.hid (S6.out.on hb)
  clear S6
  have hz := hb.size
  obtain ⟨Ax0, Cx0, ef⟩ := OwnN.form oo
  subst ef
  have S8 := Lib.hid (S7.out.add (Hl.mkN oo))
  clear S7
  have Z5 : Hid (w4.heap.size ≤ w5.heap.size) := Lib.hid (hz)
  clear hb oo hz
  obtain ⟨w6, hw6⟩ : ∃ z, z = w5.alloc (.cells #[.int .i64 p0, .slice Ax0 x0.length Cx0] 29) := ⟨_, rfl⟩
  have S9 : Hid (Sx w [(w5.heap.size, [.int .i64 p0, .slice Ax0 x0.length Cx0]), (w.heap.size, [.int .i64 p0, .slice a0 x0.length c0])] [(cpN w4.heap.size w5.heap.size (.slice Ax0 x0.length Cx0) x0), .l w3.heap.size w4.heap.size (.slice Azr XS.length Czr) XS, (cpN w2.heap.size w3.heap.size (.slice Azc0 x0.length Czc0) x0)] w6) := Lib.hid (by rw [hw6]; exact S8.out.made [.int .i64 p0, .slice Ax0 x0.length Cx0] _)
  clear S8
  have Z6 : Hid (w6.heap.size = w5.heap.size + 1) := Lib.hid (by rw [hw6]; simp)
  have Hw6 := Lib.hid hw6
  clear hw6
  have qx0_0 := (S9.out.bx _ (.head _)).cell 0
  have qx0_1 := (S9.out.bx _ (.head _)).cell 1
  simp at qx0_0 qx0_1
  rw [Hw6.out] at qx0_0 qx0_1
  go_wp2_with fail
  rw [← Hw6.out]
  refine (ikon_any p0 _ x0 _ (HGR.out.on S9.out.be) (Nts.of_own (S9.out.ls _ (.head _)).1.1 (small20 s0)) (Nat.le_trans s0 (by omega))).mono ?_
  rintro e w7 ⟨v9, rfl, oo, hb⟩
  clear qx0_0 qx0_1
  try rw [HXS.out] at oo
  have S10 := Lib.hid (S9.out.on hb)
  clear S9
  have hz := hb.size
  obtain ⟨Agr, Cgr, ef⟩ := Own.form oo
  subst ef
  have S11 := Lib.hid (S10.out.add (Hl.mk1 oo))
  clear S10
  clear oo
  have Z7 : Hid (w6.heap.size ≤ w7.heap.size) := Lib.hid (hz)
  clear hb hz
  go_wp2_with fail
  refine (eqI_any _ _ XS _ (Ints.of_own (S11.out.ls _ (.head _)).1 HXL.out) (Ints.of_own (S11.out.ls _ (.tail _ (.tail _ (.head _)))).1 HXL.out)).mono ?_
  rintro e w8 ⟨rfl, hb⟩
  have S12 := Lib.hid (S11.out.on hb)
  clear S11
  have Z8 : Hid (w7.heap.size ≤ w8.heap.size) := Lib.hid (hb.size)
  clear hb
  go_wp2_with fail
  apply wp_region_H (Z := List Cp × Option (Nat × List Value)) (S := fun k => k == 2 || k == 3 || k == 4) (C := fun z w' => Hid (Zx w8 z.1 z.2 w')) [0, 1] ([], none)
  · kernel_rfl
  · kernel_rfl
  · kernel_rfl
  · exact ⟨rfl, rfl, trivial⟩
  · rfl
  · decide
  · exact Lib.hid (Zx.start (Below.refl _ _).drew)
  · intro z
    dsimp only [pickL, nthO]
    go_big_quiet_want
    go_big_quiet_op
    refine ⟨.agg #[.int .i64 p0, .slice Ax0 x0.length Cx0], fun w' hw' => ?_, ?_⟩
    · have q9 := (S12.out.on hw'.out.be).bx _ (.head _)
      have q0 := q9.cell 0
      have q1 := q9.cell 1
      simp at q0 q1
      simp [go_sem, q0, q1]
    go_big_quiet_on
    go_big_quiet_want
    go_big_quiet_op
    refine ⟨.agg #[.int .i64 p0, .slice a0 x0.length c0], fun w' hw' => ?_, ?_⟩
    · have q9 := (S12.out.on hw'.out.be).bx _ (.tail _ (.head _))
      have q0 := q9.cell 0
      have q1 := q9.cell 1
      simp at q0 q1
      simp [go_sem, q0, q1]
    go_big_quiet_on
    exact wpQuiet_nil rfl
  · skip
    refine wpAnyH_call (i := 2) (d := some 29) 12 #[.agg #[.int .i64 p0, .slice a0 x0.length c0]] rfl (by kernel_rfl) rfl rfl (by kernel_rfl) (fun _ => by kernel_rfl) fun wae0 hc => ?_
    refine (tobd_any p0 a0 c0 x0 wae0 (HA0.out.on (S12.out.on hc.out.be).be) s0).mono ?_
    rintro e wbe0 ⟨ve0, rfl, oo, hb⟩
    refine ⟨_, rfl, ([(cpN wae0.heap.size wbe0.heap.size ve0 x0)], none), Lib.hid (hc.out.add hb (Hl.mkN oo) (Nat.le_refl _)), ?_⟩
    clear oo hb hc
    refine wpAnyH_call (i := 3) (d := some 30) 14 #[.agg #[.int .i64 p0, .slice Ax0 x0.length Cx0], .agg #[.int .i64 p0, ve0]] rfl (by kernel_rfl) rfl rfl (by kernel_rfl) (fun _ => by kernel_rfl) fun wc hc => ?_
    refine (eqbd_any p0 _ _ x0 wc (Nts.of_own ((Lib.hid (S12.out.on hc.out.be)).out.ls _ (.tail _ (.head _))).1.1 (small20 s0)) (Nts.of_own (hc.out.ls _ (.head _)).1.1 (small20 s0))).mono ?_
    rintro e wd ⟨rfl, hb⟩
    refine ⟨_, rfl, ([], none), Lib.hid ((hc.out.on hb).sub (fun _ m => (by cases m))), ?_⟩
    clear hb hc
    refine wpAnyH_special (i := 4) (d := some 31) rfl (by kernel_rfl) rfl rfl (by kernel_rfl) fun wy hcy => ⟨.bool false, wy, ([], none), .inl (by kernel_rfl), hcy, ?_⟩
    refine ⟨by kernel_rfl, fun w9 hz => ?_⟩
    simp only [Act.put, List.setIfInBounds_toArray, List.set_cons_zero, List.set_cons_succ]
    have S13 := Lib.hid (S12.out.on hz.out.be)
    clear S12
    have Z9 : Hid (w8.heap.size ≤ w9.heap.size) := Lib.hid (hz.out.be.size)
    clear hz hcy
    have qx0_0 := (S13.out.bx _ (.head _)).cell 0
    have qx0_1 := (S13.out.bx _ (.head _)).cell 1
    simp at qx0_0 qx0_1
    go_wp2_with fail
    refine (mkbd_any p0 w4.heap.size w5.heap.size _ x0 1 _ (S13.out.ls _ (.tail _ (.head _))) (by omega) (by omega) (by omega)).mono ?_
    rintro e w10 ⟨rfl, hh, ho⟩
    clear qx0_0 qx0_1
    have S14 := Lib.hid (Sx.markAt (L1 := [.l w6.heap.size w7.heap.size (.slice Agr XS.length Cgr) XS]) (L2 := [.l w3.heap.size w4.heap.size (.slice Azr XS.length Czr) XS, (cpN w2.heap.size w3.heap.size (.slice Azc0 x0.length Czc0) x0)]) (c := (cpN w4.heap.size w5.heap.size (.slice Ax0 x0.length Cx0) x0)) (c' := (cpN w4.heap.size w5.heap.size (.slice Ax0 x0.length Cx0) (markN x0 1))) S13.out ho hh (by have := Z1.out; have := Z2.out; have := Z3.out; have := Z4.out; have := Z5.out; have := Z6.out; have := Z7.out; have := Z8.out; have := Z9.out; omega) (by have := Z1.out; have := Z2.out; have := Z3.out; have := Z4.out; have := Z5.out; have := Z6.out; have := Z7.out; have := Z8.out; have := Z9.out; omega) (all_cons (by show w5.heap.size < w4.heap.size ∨ w5.heap.size ≤ w5.heap.size; have := Z1.out; have := Z2.out; have := Z3.out; have := Z4.out; have := Z5.out; have := Z6.out; have := Z7.out; have := Z8.out; have := Z9.out; omega) (all_cons (by show w.heap.size < w4.heap.size ∨ w5.heap.size ≤ w.heap.size; have := Z1.out; have := Z2.out; have := Z3.out; have := Z4.out; have := Z5.out; have := Z6.out; have := Z7.out; have := Z8.out; have := Z9.out; omega) all_nil)) (all_cons (by show w7.heap.size ≤ w4.heap.size ∨ w5.heap.size ≤ w6.heap.size; have := Z1.out; have := Z2.out; have := Z3.out; have := Z4.out; have := Z5.out; have := Z6.out; have := Z7.out; have := Z8.out; have := Z9.out; omega) (all_cons (by show w4.heap.size ≤ w4.heap.size ∨ w5.heap.size ≤ w3.heap.size; have := Z1.out; have := Z2.out; have := Z3.out; have := Z4.out; have := Z5.out; have := Z6.out; have := Z7.out; have := Z8.out; have := Z9.out; omega) (all_cons (by show w3.heap.size ≤ w4.heap.size ∨ w5.heap.size ≤ w2.heap.size; have := Z1.out; have := Z2.out; have := Z3.out; have := Z4.out; have := Z5.out; have := Z6.out; have := Z7.out; have := Z8.out; have := Z9.out; omega) all_nil))))
    clear S13
    have Z10 : Hid (w9.heap.size ≤ w10.heap.size) := Lib.hid (ho.size)
    clear hh ho
    obtain ⟨K1, hK⟩ : ∃ K : Int, 1 + (5 * (x0.length : Int)) = K := ⟨_, rfl⟩
    have K1a : 0 ≤ K1 := by omega
    have K1b : K1 ≤ 6000000 := by omega
    rw [hK]
    have HK_1 := Lib.hid hK
    clear hK
    have hk0 : ¬ K1 < 0 := by omega
    have hkd : decide (K1 < 0) = false := by simp; omega
    go_wp2_with fail
    refine (eqI_any _ _ XS _ (Ints.of_own (S14.out.ls _ (.head _)).1 HXL.out) (Ints.of_own (S14.out.ls _ (.tail _ (.tail _ (.head _)))).1 HXL.out)).mono ?_
    rintro e w11 ⟨rfl, hb⟩
    have S15 := Lib.hid (S14.out.on hb)
    clear S14
    have Z11 : Hid (w10.heap.size ≤ w11.heap.size) := Lib.hid (hb.size)
    clear hb
    have hxm := HXM.out
    go_wp2_with fail
    refine (mkI_any w6.heap.size w7.heap.size _ XS 1 _ (S15.out.ls _ (.head _)) (by omega) (by omega) (by omega)).mono ?_
    rintro e w12 ⟨rfl, hh, ho⟩
    have S16 := Lib.hid (Sx.markAt (L1 := []) (L2 := [(cpN w4.heap.size w5.heap.size (.slice Ax0 x0.length Cx0) (markN x0 1)), .l w3.heap.size w4.heap.size (.slice Azr XS.length Czr) XS, (cpN w2.heap.size w3.heap.size (.slice Azc0 x0.length Czc0) x0)]) (c := .l w6.heap.size w7.heap.size (.slice Agr XS.length Cgr) XS) (c' := .l w6.heap.size w7.heap.size (.slice Agr XS.length Cgr) (markTo XS 1 XS.length)) S15.out ho hh (by have := Z1.out; have := Z2.out; have := Z3.out; have := Z4.out; have := Z5.out; have := Z6.out; have := Z7.out; have := Z8.out; have := Z9.out; have := Z10.out; have := Z11.out; omega) (by have := Z1.out; have := Z2.out; have := Z3.out; have := Z4.out; have := Z5.out; have := Z6.out; have := Z7.out; have := Z8.out; have := Z9.out; have := Z10.out; have := Z11.out; omega) (all_cons (by show w5.heap.size < w6.heap.size ∨ w7.heap.size ≤ w5.heap.size; have := Z1.out; have := Z2.out; have := Z3.out; have := Z4.out; have := Z5.out; have := Z6.out; have := Z7.out; have := Z8.out; have := Z9.out; have := Z10.out; have := Z11.out; omega) (all_cons (by show w.heap.size < w6.heap.size ∨ w7.heap.size ≤ w.heap.size; have := Z1.out; have := Z2.out; have := Z3.out; have := Z4.out; have := Z5.out; have := Z6.out; have := Z7.out; have := Z8.out; have := Z9.out; have := Z10.out; have := Z11.out; omega) all_nil)) (all_cons (by show w5.heap.size ≤ w6.heap.size ∨ w7.heap.size ≤ w4.heap.size; have := Z1.out; have := Z2.out; have := Z3.out; have := Z4.out; have := Z5.out; have := Z6.out; have := Z7.out; have := Z8.out; have := Z9.out; have := Z10.out; have := Z11.out; omega) (all_cons (by show w4.heap.size ≤ w6.heap.size ∨ w7.heap.size ≤ w3.heap.size; have := Z1.out; have := Z2.out; have := Z3.out; have := Z4.out; have := Z5.out; have := Z6.out; have := Z7.out; have := Z8.out; have := Z9.out; have := Z10.out; have := Z11.out; omega) (all_cons (by show w3.heap.size ≤ w6.heap.size ∨ w7.heap.size ≤ w2.heap.size; have := Z1.out; have := Z2.out; have := Z3.out; have := Z4.out; have := Z5.out; have := Z6.out; have := Z7.out; have := Z8.out; have := Z9.out; have := Z10.out; have := Z11.out; omega) all_nil))))
    clear S15
    have Z12 : Hid (w11.heap.size ≤ w12.heap.size) := Lib.hid (ho.size)
    clear hh ho
    obtain ⟨K2, hK⟩ : ∃ K : Int, 1 + (XS.length : Int) = K := ⟨_, rfl⟩
    have K2a : 0 ≤ K2 := by omega
    have K2b : K2 ≤ 12000000 := by omega
    rw [hK]
    have HK_2 := Lib.hid hK
    clear hK
    have hm0 : ¬ K2 < 0 := by omega
    have hmn : (K2 != K2) = false := by simp
    go_wp2_with fail
    refine (hdI_any _ XS 1 _ (Ints.of_own (S16.out.ls _ (.head _)).1 (by rw [markTo_len]; exact HXL.out)) (by omega) (by omega) (by omega)).mono ?_
    rintro e w13 ⟨rfl, hb⟩
    rw [HK_2.out]
    have S17 := Lib.hid (S16.out.on hb)
    clear S16
    have Z13 : Hid (w12.heap.size ≤ w13.heap.size) := Lib.hid (hb.size)
    clear hb
    have qH0_0 := (S17.out.bx _ (.tail _ (.head _))).cell 0
    have qH0_1 := (S17.out.bx _ (.tail _ (.head _))).cell 1
    simp at qH0_0 qH0_1
    go_wp2_with fail
    refine (tobd_any p0 a0 c0 x0 _ (HA0.out.on S17.out.be) s0).mono ?_
    rintro e w14 ⟨v9, rfl, oo, hb⟩
    clear qH0_0 qH0_1
    have S18 := Lib.hid (S17.out.on hb)
    clear S17
    have hz := hb.size
    obtain ⟨Ayc0, Cyc0, ef⟩ := OwnN.form oo
    subst ef
    have S19 := Lib.hid (S18.out.add (Hl.mkN oo))
    clear S18
    have Z14 : Hid (w13.heap.size ≤ w14.heap.size) := Lib.hid (hz)
    clear hb oo hz
    go_wp2_with fail
    refine (ikon_any p0 _ x0 _ (HGR.out.on S19.out.be) (Nts.of_own (S19.out.ls _ (.head _)).1.1 (small20 s0)) (Nat.le_trans s0 (by omega))).mono ?_
    rintro e w15 ⟨v9, rfl, oo, hb⟩
    try rw [HXS.out] at oo
    have S20 := Lib.hid (S19.out.on hb)
    clear S19
    have hz := hb.size
    obtain ⟨Ayr, Cyr, ef⟩ := Own.form oo
    subst ef
    have S21 := Lib.hid (S20.out.add (Hl.mk1 oo))
    clear S20
    clear oo
    have Z15 : Hid (w14.heap.size ≤ w15.heap.size) := Lib.hid (hz)
    clear hb hz
    go_wp2_with fail
    refine (eqI_any _ _ XS _ (Ints.of_own (S21.out.ls _ (.head _)).1 HXL.out) (Ints.of_own (S21.out.ls _ (.tail _ (.tail _ (.tail _ (.tail _ (.head _)))))).1 HXL.out)).mono ?_
    rintro e w16 ⟨rfl, hb⟩
    have S22 := Lib.hid (S21.out.on hb)
    clear S21
    have Z16 : Hid (w15.heap.size ≤ w16.heap.size) := Lib.hid (hb.size)
    clear hb
    go_wp2_with fail
    refine (hdI_any _ XS 1 _ (Ints.of_own (S22.out.ls _ (.tail _ (.tail _ (.head _)))).1 (by rw [markTo_len]; exact HXL.out)) (by omega) (by omega) (by omega)).mono ?_
    rintro e w17 ⟨rfl, hb⟩
    rw [HK_2.out]
    have S23 := Lib.hid (S22.out.on hb)
    clear S22
    have Z17 : Hid (w16.heap.size ≤ w17.heap.size) := Lib.hid (hb.size)
    clear hb
    go_wp2
    go_ret
    exact ⟨rfl, S23.out.be⟩
end Go.Proofs.YtiinifcepcaonaaDoor
