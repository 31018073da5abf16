/- The law FnOrderFrom, walked. -/
import Derived.Test.YtipndddmjgjgpabDoorDrM
import Derived.Test.YtipndddmjgjgpabDoorLwTurnOf
import Derived.Test.YtipndddmjgjgpabDoorFrmS
import Derived.Test.YtipndddmjgjgpabDoorTrnK
namespace Go.Proofs.YtipndddmjgjgpabDoor
open Go.RowKit

/-- What the law says of the order that two answers tell: P36. -/
theorem fr_facts {p q s1 a1 s2 a2 : Int} {g h e1 t1 e2 t2 : List Int} (k : ofrB p g q h s1 e1 a1 t1 s2 e2 a2 t2 = true) :
    gmP p g (ofrL p g q h s1 e1 a1 t1 s2 e2 a2 t2) = q ∧ gmE p g (ofrL p g q h s1 e1 a1 t1 s2 e2 a2 t2) = h := by
  rw [ofr_yes k]
  unfold ofrB at k
  simp only [Bool.and_eq_true, decide_eq_true_eq] at k
  obtain ⟨k1, k2, rfl, rfl, rfl, he⟩ := k
  have he' : e1 = e2 := by simpa [sameB] using he
  subst he'
  obtain ⟨m1, rfl, x1⟩ := tkT_true.1 k1
  obtain ⟨m2, _, x2⟩ := tkT_true.1 k2
  obtain ⟨o, e⟩ := told_from m1 m2 x1 x2
  have hb : odB t2 t2.length = true := odB_true.2 (by rw [m2.o.len]; exact m2.o)
  have ht : thB t1 (bck t2) = true := thB_true.2 (by rw [m1.o.len]; exact ⟨m1.o, bck_od m2.o⟩)
  rw [bkL_yes hb, thL_yes ht]
  obtain ⟨a, b⟩ := gm_yes (gmB_true.2 ⟨m1.gg, o⟩)
  rw [a, b, e]
  exact ⟨m1.e, rfl⟩

set_option maxRecDepth 100000 in
set_option maxHeartbeats 6400000 in
theorem lOrderFrom_walk (s : Value) (w : World) (h : CodeIn w s) (G : Gr w) : Calls Tryd.prog 12 #[s] w fun e w' => e = .returned (.bool true) ∧ Below w.heap.size w w' := by
  obtain ⟨a0, len0, cap0, rfl⟩ := h.slice
  have H := Lib.hid h; clear h
  have G0 := Lib.hid G; clear G
  by_cases hl : 1048576 < len0
  · go_enter Tryd.func12, Tryd.ntmps12
    go_wp2
    go_ret
    exact ⟨rfl, Below.refl _ _⟩
  go_enter Tryd.func12, Tryd.ntmps12
  go_wp2_with fail
  refine (drawOrderFrom_any _ _ H.out).mono ?_
  rintro e w1 ⟨p, gv, g, q, hv, hs, s1, v1, e1, k1, u1, t1, s2, v2, e2, k2, u2, t2, rfl, hp, hq, l1, l2, l3, l4, l5, l6, hb⟩
  have X0 := Lib.hid l1
  have X1 := Lib.hid l2
  have X2 := Lib.hid l3
  have X3 := Lib.hid l4
  have X4 := Lib.hid l5
  have X5 := Lib.hid l6
  clear l1 l2 l3 l4 l5 l6
  have S1 := Lib.hid (Lq.start hb)
  clear hb
  obtain ⟨ga, gc, y0⟩ := Own.form_ints X0.out.ints
  subst y0
  obtain ⟨ha, hc, y1⟩ := Own.form_ints X1.out.ints
  subst y1
  obtain ⟨v1a, v1c, y2⟩ := Own.form_ints X2.out.ints
  subst y2
  obtain ⟨u1a, u1c, y3⟩ := Own.form_ints X3.out.ints
  subst y3
  obtain ⟨v2a, v2c, y4⟩ := Own.form_ints X4.out.ints
  subst y4
  obtain ⟨u2a, u2c, y5⟩ := Own.form_ints X5.out.ints
  subst y5
  have S2 := Lib.hid (S1.out.more X5.out)
  clear S1
  have S3 := Lib.hid (S2.out.more X4.out)
  clear S2
  have S4 := Lib.hid (S3.out.more X3.out)
  clear S3
  have S5 := Lib.hid (S4.out.more X2.out)
  clear S4
  have S6 := Lib.hid (S5.out.more X1.out)
  clear S5
  have S7 := Lib.hid (S6.out.more X0.out)
  clear S6
  clear X0 X1 X2 X3 X4 X5
  obtain ⟨XS, hXS⟩ : ∃ r, ofrL p g q hs s1 e1 k1 t1 s2 e2 k2 t2 = r := ⟨_, rfl⟩
  obtain ⟨BB, hBB⟩ : ∃ r, ofrB p g q hs s1 e1 k1 t1 s2 e2 k2 t2 = r := ⟨_, rfl⟩
  have HXM : Hid (XS.length ≤ 5) := Lib.hid (by rw [← hXS]; exact ofrL_few)
  have HFF : Hid (BB = true → gmP p g XS = q ∧ gmE p g XS = hs) := Lib.hid (fun e => by rw [← hXS]; exact fr_facts (hBB.trans e))
  have HF0 : Hid (BB = false → XS.length = 0) := Lib.hid (fun e => by rw [← hXS, ofr_no (hBB.trans e)]; rfl)
  have HXS := Lib.hid hXS
  clear hXS
  have HBB := Lib.hid hBB
  clear hBB
  have IP : Hid (intIn p) := Lib.hid ⟨by omega, by omega⟩
  have IQ : Hid (intIn q) := Lib.hid ⟨by omega, by omega⟩
  obtain ⟨w2, hw2⟩ : ∃ z, z = ((((w1.alloc (.cells #[.int .i64 p, .slice ga g.length gc] 25)).alloc (.cells #[.int .i64 q, .slice ha hs.length hc] 25)).alloc (.cells #[.int .i64 s1, .slice v1a e1.length v1c, .int .i64 k1, .slice u1a t1.length u1c] 50)).alloc (.cells #[.int .i64 s2, .slice v2a e2.length v2c, .int .i64 k2, .slice u2a t2.length u2c] 50)) := ⟨_, rfl⟩
  have S8 : Hid (Lq w [(.slice ga g.length gc, g), (.slice ha hs.length hc, hs), (.slice v1a e1.length v1c, e1), (.slice u1a t1.length u1c, t1), (.slice v2a e2.length v2c, e2), (.slice u2a t2.length u2c, t2)] [((w1.heap.size + 1 + 1 + 1), [.int .i64 s2, .slice v2a e2.length v2c, .int .i64 k2, .slice u2a t2.length u2c]), ((w1.heap.size + 1 + 1), [.int .i64 s1, .slice v1a e1.length v1c, .int .i64 k1, .slice u1a t1.length u1c]), ((w1.heap.size + 1), [.int .i64 q, .slice ha hs.length hc]), (w1.heap.size, [.int .i64 p, .slice ga g.length gc])] [] w2) := Lib.hid (by rw [hw2]; have h9 := ((((S7.out.made [.int .i64 p, .slice ga g.length gc] 25).made [.int .i64 q, .slice ha hs.length hc] 25).made [.int .i64 s1, .slice v1a e1.length v1c, .int .i64 k1, .slice u1a t1.length u1c] 50).made [.int .i64 s2, .slice v2a e2.length v2c, .int .i64 k2, .slice u2a t2.length u2c] 50); simpa using h9)
  clear S7
  have Hw2 := Lib.hid hw2
  clear hw2
  have q3_0 := (S8.out.sx.bx _ (.tail _ (.tail _ (.tail _ (.head _))))).cell 0
  have q3_1 := (S8.out.sx.bx _ (.tail _ (.tail _ (.tail _ (.head _))))).cell 1
  have q4_0 := (S8.out.sx.bx _ (.tail _ (.tail _ (.head _)))).cell 0
  have q4_1 := (S8.out.sx.bx _ (.tail _ (.tail _ (.head _)))).cell 1
  have q5_0 := (S8.out.sx.bx _ (.tail _ (.head _))).cell 0
  have q5_1 := (S8.out.sx.bx _ (.tail _ (.head _))).cell 1
  have q5_2 := (S8.out.sx.bx _ (.tail _ (.head _))).cell 2
  have q5_3 := (S8.out.sx.bx _ (.tail _ (.head _))).cell 3
  have q6_0 := (S8.out.sx.bx _ (.head _)).cell 0
  have q6_1 := (S8.out.sx.bx _ (.head _)).cell 1
  have q6_2 := (S8.out.sx.bx _ (.head _)).cell 2
  have q6_3 := (S8.out.sx.bx _ (.head _)).cell 3
  simp at q3_0 q3_1 q4_0 q4_1 q5_0 q5_1 q5_2 q5_3 q6_0 q6_1 q6_2 q6_3
  rw [Hw2.out] at q3_0 q3_1 q4_0 q4_1 q5_0 q5_1 q5_2 q5_3 q6_0 q6_1 q6_2 q6_3
  go_wp2_with fail
  rw [← Hw2.out]
  refine (iofr_any p q s1 k1 s2 k2 _ _ _ _ _ _ g hs e1 t1 e2 t2 _ (S8.out.li _ (.head _)).ints (S8.out.li _ (.tail _ (.head _))).ints (S8.out.li _ (.tail _ (.tail _ (.head _)))).ints (S8.out.li _ (.tail _ (.tail _ (.tail _ (.tail _ (.head _)))))).ints (S8.out.li _ (.tail _ (.tail _ (.tail _ (.head _))))).ints (S8.out.li _ (.tail _ (.tail _ (.tail _ (.tail _ (.tail _ (.head _))))))).ints (S8.out.li _ (.tail _ (.tail _ (.tail _ (.head _))))).cap (S8.out.li _ (.tail _ (.tail _ (.tail _ (.tail _ (.tail _ (.head _))))))).cap (S8.out.li _ (.head _)).num (S8.out.li _ (.tail _ (.head _))).num).mono ?_
  rintro e w3 ⟨r7, rfl, oo, hb⟩
  rw [HXS.out] at oo
  rw [HBB.out]
  clear q3_0 q3_1 q4_0 q4_1 q5_0 q5_1 q5_2 q5_3 q6_0 q6_1 q6_2 q6_3
  have S9 := Lib.hid (S8.out.on hb)
  clear S8
  obtain ⟨Ar7, Cr7, ef⟩ := Own.form oo
  subst ef
  have S10 := Lib.hid (S9.out.add (Hl.mk1 oo))
  clear S9
  clear hb oo
  have q3_0 := (S10.out.sx.bx _ (.tail _ (.tail _ (.tail _ (.head _))))).cell 0
  have q3_1 := (S10.out.sx.bx _ (.tail _ (.tail _ (.tail _ (.head _))))).cell 1
  have q4_0 := (S10.out.sx.bx _ (.tail _ (.tail _ (.head _)))).cell 0
  have q4_1 := (S10.out.sx.bx _ (.tail _ (.tail _ (.head _)))).cell 1
  have q5_0 := (S10.out.sx.bx _ (.tail _ (.head _))).cell 0
  have q5_1 := (S10.out.sx.bx _ (.tail _ (.head _))).cell 1
  have q5_2 := (S10.out.sx.bx _ (.tail _ (.head _))).cell 2
  have q5_3 := (S10.out.sx.bx _ (.tail _ (.head _))).cell 3
  have q6_0 := (S10.out.sx.bx _ (.head _)).cell 0
  have q6_1 := (S10.out.sx.bx _ (.head _)).cell 1
  have q6_2 := (S10.out.sx.bx _ (.head _)).cell 2
  have q6_3 := (S10.out.sx.bx _ (.head _)).cell 3
  simp at q3_0 q3_1 q4_0 q4_1 q5_0 q5_1 q5_2 q5_3 q6_0 q6_1 q6_2 q6_3
  go_wp2_with fail
  refine (sofr_any p q s1 k1 s2 k2 _ _ _ _ _ _ g hs e1 t1 e2 t2 _ (S10.out.li _ (.head _)).ints (S10.out.li _ (.tail _ (.head _))).ints (S10.out.li _ (.tail _ (.tail _ (.head _)))).ints (S10.out.li _ (.tail _ (.tail _ (.tail _ (.tail _ (.head _)))))).ints (S10.out.li _ (.tail _ (.tail _ (.tail _ (.head _))))).ints (S10.out.li _ (.tail _ (.tail _ (.tail _ (.tail _ (.tail _ (.head _))))))).ints IP.out IQ.out (S10.out.li _ (.head _)).num (S10.out.li _ (.tail _ (.head _))).num).mono ?_
  rintro e w4 ⟨r9, rfl, oo, hb⟩
  rw [HXS.out] at oo
  rw [HBB.out]
  clear q3_0 q3_1 q4_0 q4_1 q5_0 q5_1 q5_2 q5_3 q6_0 q6_1 q6_2 q6_3
  have S11 := Lib.hid (S10.out.on hb)
  clear S10
  obtain ⟨Ar9, Cr9, ef⟩ := Own.form oo
  subst ef
  have S12 := Lib.hid (S11.out.add (Hl.mk1 oo))
  clear S11
  clear hb oo
  have hbb : (BB != BB) = false := by simp
  go_wp2_with fail
  refine (same_eq _ _ XS _ (Ints.of_own (S12.out.sx.ls _ (.tail _ (.head _))).1 (few5 HXM.out)) (Ints.of_own (S12.out.sx.ls _ (.head _)).1 (few5 HXM.out))).mono ?_
  rintro e w5 ⟨rfl, hb⟩
  have S13 := Lib.hid (S12.out.on hb)
  clear S12
  clear hb
  cases BB
  · rw [HF0.out rfl]
    go_wp2_with fail
    refine (alive_any _ (G0.out.on S13.out.sx.be)).mono ?_
    rintro e w6 ⟨rfl, rfl⟩
    go_wp2
    go_ret
    exact ⟨rfl, S13.out.sx.be⟩
  · have HF := Lib.hid (HFF.out rfl)
    go_wp2_with fail
    apply wp_region_H (Z := List Cp × Option (Nat × List Value)) (S := fun k => k == 2 || k == 4) (C := fun z w' => Hid (Zx w5 z.1 z.2 w')) [0, 1, 3] ([], none)
    · kernel_rfl
    · kernel_rfl
    · kernel_rfl
    · exact ⟨rfl, rfl, rfl, trivial⟩
    · rfl
    · decide
    · exact Lib.hid (Zx.start (Below.refl _ _).drew)
    · intro z
      dsimp only [pickL, nthO]
      go_big_quiet_want
      go_big_quiet_op
      refine ⟨.agg #[.int .i64 p, .slice ga g.length gc], fun w' hw' => ?_, ?_⟩
      · have q9 := (S13.out.on hw'.out.be).sx.bx _ (.tail _ (.tail _ (.tail _ (.head _))))
        have q0 := q9.cell 0
        have q1 := q9.cell 1
        simp at q0 q1
        simp [go_sem, q0, q1]
      go_big_quiet_on
      go_big_quiet_want; go_big_quiet_op; first | go_big_quiet_on | (refine ⟨_, fun _ _ => rfl, ?_⟩; go_big_quiet_on)
      go_big_quiet_want
      go_big_quiet_op
      refine ⟨.agg #[.int .i64 q, .slice ha hs.length hc], fun w' hw' => ?_, ?_⟩
      · have q9 := (S13.out.on hw'.out.be).sx.bx _ (.tail _ (.tail _ (.head _)))
        have q0 := q9.cell 0
        have q1 := q9.cell 1
        simp at q0 q1
        simp [go_sem, q0, q1]
      go_big_quiet_on
      exact wpQuiet_nil rfl
    · skip
      refine wpAnyH_call (i := 2) (d := some 56) 22 #[.agg #[.int .i64 p, .slice ga g.length gc], .slice Ar7 XS.length Cr7] rfl (by kernel_rfl) rfl rfl (by kernel_rfl) (fun _ => by kernel_rfl) fun wa1 hc => ?_
      refine (igm_any p _ _ g XS wa1 ((Lib.hid (S13.out.on hc.out.be)).out.li _ (.head _)).ints (Ints.of_own ((Lib.hid (S13.out.on hc.out.be)).out.sx.ls _ (.tail _ (.head _))).1 (few5 HXM.out)) ((Lib.hid (S13.out.on hc.out.be)).out.sx.ls _ (.tail _ (.head _))).1.capped ((Lib.hid (S13.out.on hc.out.be)).out.li _ (.head _)).num).mono ?_
      rintro e wb1 ⟨v3, rfl, oo, hb⟩
      rw [HF.out.2] at oo
      rw [HF.out.1]
      refine ⟨_, rfl, ([.l wa1.heap.size wb1.heap.size v3 hs], none), Lib.hid (hc.out.add hb (Hl.mk1 oo) (Nat.le_refl _)), ?_⟩
      clear hb hc oo
      refine wpAnyH_call (i := 4) (d := some 58) 23 #[.agg #[.int .i64 q, v3], .agg #[.int .i64 q, .slice ha hs.length hc]] rfl (by kernel_rfl) rfl rfl (by kernel_rfl) (fun _ => by kernel_rfl) fun wa2 hc => ?_
      refine (lsg_eq q _ _ hs wa2 (Ints.of_own (hc.out.ls _ (.head _)).1 (fits50 ((Lib.hid (S13.out.on hc.out.be)).out.li _ (.tail _ (.head _))).few)) ((Lib.hid (S13.out.on hc.out.be)).out.li _ (.tail _ (.head _))).ints).mono ?_
      rintro e wb2 ⟨rfl, hb⟩
      refine ⟨_, rfl, ([.l wa1.heap.size wb1.heap.size v3 hs], none), Lib.hid (hc.out.on hb), ?_⟩
      clear hb hc
      refine wpAnyH_take (i := 5) (d := some 2) (.bool true) rfl (by kernel_rfl) rfl rfl (by kernel_rfl) (by kernel_rfl) (by kernel_rfl) (fun _ => by kernel_rfl) ?_
      refine ⟨by kernel_rfl, fun w7 hz => ?_⟩
      simp only [Act.put, List.setIfInBounds_toArray, List.set_cons_zero, List.set_cons_succ]
      have S14 := Lib.hid (S13.out.on hz.out.be)
      clear S13
      clear hz
      go_wp2
      go_ret
      exact ⟨rfl, S14.out.sx.be⟩
end Go.Proofs.YtipndddmjgjgpabDoor
