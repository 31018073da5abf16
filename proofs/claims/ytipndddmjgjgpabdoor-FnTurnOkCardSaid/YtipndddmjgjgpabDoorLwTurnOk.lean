/- The law FnTurnOk, walked. -/
import Derived.Test.YtipndddmjgjgpabDoorDrM
import Derived.Test.YtipndddmjgjgpabDoorLwTurnOf
namespace Go.Proofs.YtipndddmjgjgpabDoor
open Go.RowKit

theorem lsg_no (p q : Int) (gv hv : Value) (g h : List Int) (w : World) (hg : Ints w gv g) (hh : Ints w hv h) (k : (decide (p = q) && sameB g h) = false) :
    Calls Tryd.prog 23 #[.agg #[.int .i64 p, gv], .agg #[.int .i64 q, hv]] w fun e w' => e = .returned (.bool false) ∧ Below w.heap.size w w' := by
  obtain ⟨p0, p1, pl⟩ := boxes2 (P := [.int .i64 p, gv]) (R := [.int .i64 q, hv]) (Below.refl ((w.alloc (.cells #[.int .i64 p, gv] 25)).alloc (.cells #[.int .i64 q, hv] 25)).heap.size _)
  have a0 := p0.cell 0
  have a1 := p0.cell 1
  have b0 := p1.cell 0
  have b1 := p1.cell 1
  simp at a0 a1 b0 b1
  have PL := Lib.hid pl
  have HG := Lib.hid (hg.below pl)
  have HH := Lib.hid (hh.below pl)
  clear p0 p1 pl hg hh
  by_cases e : p = q
  · have HX := Lib.hid (show sameB g h = false from by simpa [e] using k)
    have hd : (p == q) = true := by simp [e]
    clear e k
    go_enter Tryd.func23, Tryd.ntmps23
    go_wp2_with fail
    refine (same_any gv hv g h _ HG.out HH.out).mono ?_
    rintro e w1 ⟨rfl, m9, hb⟩
    rw [HX.out]
    have B1 := Lib.hid (Below.on PL.out (below_of_drew hb))
    clear hb a0 a1 b0 b1
    go_wp2
    go_ret
    exact ⟨rfl, B1.out⟩
  · have hd : (p == q) = false := by simp [e]
    clear e k
    go_enter Tryd.func23, Tryd.ntmps23
    go_wp2
    go_ret
    exact ⟨rfl, PL.out⟩
set_option maxHeartbeats 1600000 in
theorem ltn_no (p q n : Int) (v v' u u' : Value) (es fs : List Int) (w : World) (h1 : Ints w v es) (h2 : Ints w v' fs) (k : (decide (p = q) && sameB es fs) = false) :
    Calls Tryd.prog 40 #[.agg #[.int .i64 p, v, .int .i64 n, u], .agg #[.int .i64 q, v', .int .i64 n, u']] w fun e w' => e = .returned (.bool false) ∧ Below w.heap.size w w' := by
  obtain ⟨p0, p1, pl⟩ := boxes2 (P := [.int .i64 p, v, .int .i64 n, u]) (R := [.int .i64 q, v', .int .i64 n, u']) (Below.refl ((w.alloc (.cells #[.int .i64 p, v, .int .i64 n, u] 50)).alloc (.cells #[.int .i64 q, v', .int .i64 n, u'] 50)).heap.size _)
  have a0 := p0.cell 0
  have a1 := p0.cell 1
  have b0 := p1.cell 0
  have b1 := p1.cell 1
  simp at a0 a1 b0 b1
  have PL := Lib.hid pl
  have H1 := Lib.hid (h1.below pl)
  have H2 := Lib.hid (h2.below pl)
  have HK := Lib.hid k
  clear p0 p1 pl h1 h2 k
  go_enter Tryd.func40, Tryd.ntmps40
  go_wp2_with fail
  refine (lsg_no p q _ _ es fs _ H1.out H2.out HK.out).mono ?_
  rintro e w1 ⟨rfl, hb⟩
  have B1 := Lib.hid (Below.on PL.out hb)
  clear hb a0 a1 b0 b1
  go_wp2
  go_ret
  exact ⟨rfl, B1.out⟩
theorem ltn_gen (p q n : Int) (v v' u u' : Value) (es fs ys : List Int) (w : World) (h1 : Ints w v es) (h2 : Ints w v' fs) (k1 : Ints w u ys) (k2 : Ints w u' ys) :
    Calls Tryd.prog 40 #[.agg #[.int .i64 p, v, .int .i64 n, u], .agg #[.int .i64 q, v', .int .i64 n, u']] w fun e w' => e = .returned (.bool (decide (p = q) && sameB es fs)) ∧ Below w.heap.size w w' := by
  cases k : (decide (p = q) && sameB es fs)
  · exact ltn_no p q n v v' u u' es fs w h1 h2 k
  · simp only [Bool.and_eq_true, decide_eq_true_eq] at k
    obtain ⟨rfl, k⟩ := k
    have k' : es = fs := by simpa [sameB] using k
    subst k'
    exact ltn_eq p n v v' u u' es ys w h1 h2 k1 k2

set_option maxRecDepth 100000 in
set_option maxHeartbeats 6400000 in
theorem lTurnOk_walk (s : Value) (w : World) (h : CodeIn w s) (G : Gr w) : Calls Tryd.prog 9 #[s] w fun e w' => e = .returned (.bool true) ∧ Below w.heap.size w w' := by
  obtain ⟨a0, len0, cap0, rfl⟩ := h.slice
  have H := Lib.hid h; clear h
  have G0 := Lib.hid G; clear G
  by_cases hl : 1048576 < len0
  · go_enter Tryd.func9, Tryd.ntmps9
    go_wp2
    go_ret
    exact ⟨rfl, Below.refl _ _⟩
  go_enter Tryd.func9, Tryd.ntmps9
  go_wp2_with fail
  refine (drawTurnOk_any _ _ H.out).mono ?_
  rintro e w1 ⟨p, gv, g, q, hv, hs, s1, v1, e1, k1, u1, t1, rfl, hp, hq, l1, l2, l3, l4, hb⟩
  have X0 := Lib.hid l1
  have X1 := Lib.hid l2
  have X2 := Lib.hid l3
  have X3 := Lib.hid l4
  clear l1 l2 l3 l4
  have S1 := Lib.hid (Lq.start hb)
  clear hb
  obtain ⟨ga, gc, y0⟩ := Own.form_ints X0.out.ints
  subst y0
  obtain ⟨ha, hc, y1⟩ := Own.form_ints X1.out.ints
  subst y1
  obtain ⟨v1a, v1c, y2⟩ := Own.form_ints X2.out.ints
  subst y2
  obtain ⟨u1a, u1c, y3⟩ := Own.form_ints X3.out.ints
  subst y3
  have S2 := Lib.hid (S1.out.more X3.out)
  clear S1
  have S3 := Lib.hid (S2.out.more X2.out)
  clear S2
  have S4 := Lib.hid (S3.out.more X1.out)
  clear S3
  have S5 := Lib.hid (S4.out.more X0.out)
  clear S4
  clear X0 X1 X2 X3
  have IP : Hid (intIn p) := Lib.hid ⟨by omega, by omega⟩
  have IQ : Hid (intIn q) := Lib.hid ⟨by omega, by omega⟩
  obtain ⟨PG, hPG⟩ : ∃ r, mdPx p g q hs k1 t1 = r := ⟨_, rfl⟩
  obtain ⟨XS, hXS⟩ : ∃ r, mdEx p g q hs k1 t1 = r := ⟨_, rfl⟩
  obtain ⟨NG, hNG⟩ : ∃ r, mdNx p g q hs k1 t1 = r := ⟨_, rfl⟩
  obtain ⟨YS, hYS⟩ : ∃ r, mdYx p g q hs k1 t1 = r := ⟨_, rfl⟩
  obtain ⟨TK, hTK⟩ : ∃ r, tkT p g q hs s1 e1 k1 t1 = r := ⟨_, rfl⟩
  have HXM : Hid (XS.length ≤ 50) := Lib.hid (by rw [← hXS]; exact mdEx_few)
  have HNO : Hid (mdT p g q hs k1 t1 = false → TK = false) := Lib.hid (fun e => by rw [← hTK]; unfold tkT; rw [e]; rfl)
  have HYES : Hid (mdT p g q hs k1 t1 = true → PG = p ∧ NG = k1 ∧ YS = t1 ∧ (decide (PG = s1) && sameB XS e1) = TK) := Lib.hid (fun e => by rw [← hPG, ← hXS, ← hNG, ← hYS, ← hTK]; simp only [mdPx, mdEx, mdNx, mdYx, tkT, e, if_true, Bool.true_and, true_and]; rw [show decide (p = s1) = decide (s1 = p) from by simp [eq_comm]])
  have HPG := Lib.hid hPG
  clear hPG
  have HXS := Lib.hid hXS
  clear hXS
  have HNG := Lib.hid hNG
  clear hNG
  have HYS := Lib.hid hYS
  clear hYS
  have HTK := Lib.hid hTK
  clear hTK
  obtain ⟨w2, hw2⟩ : ∃ z, z = (((w1.alloc (.cells #[.int .i64 p, .slice ga g.length gc] 25)).alloc (.cells #[.int .i64 q, .slice ha hs.length hc] 25)).alloc (.cells #[.int .i64 s1, .slice v1a e1.length v1c, .int .i64 k1, .slice u1a t1.length u1c] 50)) := ⟨_, rfl⟩
  have S6 : Hid (Lq w [(.slice ga g.length gc, g), (.slice ha hs.length hc, hs), (.slice v1a e1.length v1c, e1), (.slice u1a t1.length u1c, t1)] [((w1.heap.size + 1 + 1), [.int .i64 s1, .slice v1a e1.length v1c, .int .i64 k1, .slice u1a t1.length u1c]), ((w1.heap.size + 1), [.int .i64 q, .slice ha hs.length hc]), (w1.heap.size, [.int .i64 p, .slice ga g.length gc])] [] w2) := Lib.hid (by rw [hw2]; have h9 := (((S5.out.made [.int .i64 p, .slice ga g.length gc] 25).made [.int .i64 q, .slice ha hs.length hc] 25).made [.int .i64 s1, .slice v1a e1.length v1c, .int .i64 k1, .slice u1a t1.length u1c] 50); simpa using h9)
  clear S5
  have Hw2 := Lib.hid hw2
  clear hw2
  have q3_0 := (S6.out.sx.bx _ (.tail _ (.tail _ (.head _)))).cell 0
  have q3_1 := (S6.out.sx.bx _ (.tail _ (.tail _ (.head _)))).cell 1
  have q4_0 := (S6.out.sx.bx _ (.tail _ (.head _))).cell 0
  have q4_1 := (S6.out.sx.bx _ (.tail _ (.head _))).cell 1
  have q5_0 := (S6.out.sx.bx _ (.head _)).cell 0
  have q5_1 := (S6.out.sx.bx _ (.head _)).cell 1
  have q5_2 := (S6.out.sx.bx _ (.head _)).cell 2
  have q5_3 := (S6.out.sx.bx _ (.head _)).cell 3
  simp at q3_0 q3_1 q4_0 q4_1 q5_0 q5_1 q5_2 q5_3
  rw [Hw2.out] at q3_0 q3_1 q4_0 q4_1 q5_0 q5_1 q5_2 q5_3
  go_wp2_with fail
  rw [← Hw2.out]
  refine (itrn_any p q s1 k1 _ _ _ _ g hs e1 t1 _ (S6.out.li _ (.head _)).ints (S6.out.li _ (.tail _ (.head _))).ints (S6.out.li _ (.tail _ (.tail _ (.head _)))).ints (S6.out.li _ (.tail _ (.tail _ (.tail _ (.head _))))).ints (S6.out.li _ (.tail _ (.tail _ (.tail _ (.head _))))).cap (S6.out.li _ (.head _)).num (S6.out.li _ (.tail _ (.head _))).num).mono ?_
  rintro e w3 ⟨rfl, hb⟩
  rw [HTK.out]
  clear q3_0 q3_1 q4_0 q4_1 q5_0 q5_1 q5_2 q5_3
  have S7 := Lib.hid (S6.out.on hb)
  clear S6
  clear hb
  have q3_0 := (S7.out.sx.bx _ (.tail _ (.tail _ (.head _)))).cell 0
  have q3_1 := (S7.out.sx.bx _ (.tail _ (.tail _ (.head _)))).cell 1
  have q4_0 := (S7.out.sx.bx _ (.tail _ (.head _))).cell 0
  have q4_1 := (S7.out.sx.bx _ (.tail _ (.head _))).cell 1
  have q5_0 := (S7.out.sx.bx _ (.head _)).cell 0
  have q5_1 := (S7.out.sx.bx _ (.head _)).cell 1
  have q5_2 := (S7.out.sx.bx _ (.head _)).cell 2
  have q5_3 := (S7.out.sx.bx _ (.head _)).cell 3
  simp at q3_0 q3_1 q4_0 q4_1 q5_0 q5_1 q5_2 q5_3
  go_wp2_with fail
  refine (strn_any p q s1 k1 _ _ _ _ g hs e1 t1 _ (S7.out.li _ (.head _)).ints (S7.out.li _ (.tail _ (.head _))).ints (S7.out.li _ (.tail _ (.tail _ (.head _)))).ints (S7.out.li _ (.tail _ (.tail _ (.tail _ (.head _))))).ints IP.out IQ.out (S7.out.li _ (.head _)).num (S7.out.li _ (.tail _ (.head _))).num).mono ?_
  rintro e w4 ⟨rfl, hb⟩
  rw [HTK.out]
  clear q3_0 q3_1 q4_0 q4_1 q5_0 q5_1 q5_2 q5_3
  have S8 := Lib.hid (S7.out.on hb)
  clear S7
  clear hb
  have hne : (TK != TK) = false := by simp
  have q3_0 := (S8.out.sx.bx _ (.tail _ (.tail _ (.head _)))).cell 0
  have q3_1 := (S8.out.sx.bx _ (.tail _ (.tail _ (.head _)))).cell 1
  have q4_0 := (S8.out.sx.bx _ (.tail _ (.head _))).cell 0
  have q4_1 := (S8.out.sx.bx _ (.tail _ (.head _))).cell 1
  have q5_0 := (S8.out.sx.bx _ (.head _)).cell 0
  have q5_1 := (S8.out.sx.bx _ (.head _)).cell 1
  have q5_2 := (S8.out.sx.bx _ (.head _)).cell 2
  have q5_3 := (S8.out.sx.bx _ (.head _)).cell 3
  simp at q3_0 q3_1 q4_0 q4_1 q5_0 q5_1 q5_2 q5_3
  cases hMB : mdT p g q hs k1 t1
  · have htk := HNO.out hMB
    subst htk
    go_wp2_with fail
    refine (((imd_any p q k1 _ _ _ g hs t1 _ (S8.out.li _ (.head _)).ints (S8.out.li _ (.tail _ (.head _))).ints (S8.out.li _ (.tail _ (.tail _ (.tail _ (.head _))))).ints (S8.out.li _ (.tail _ (.tail _ (.tail _ (.head _))))).cap (S8.out.li _ (.head _)).num (S8.out.li _ (.tail _ (.head _))).num).mono fun _ _ h => h.x)).mono ?_
    rintro e w5 ⟨v9, u9, rfl, oo, o2, oa, hb⟩
    rw [HXS.out] at oo
    rw [HYS.out] at o2
    rw [HPG.out, HNG.out, hMB]
    clear q3_0 q3_1 q4_0 q4_1 q5_0 q5_1 q5_2 q5_3
    have S9 := Lib.hid (S8.out.on hb)
    clear S8
    obtain ⟨A7, C7, ef⟩ := Own.form oo
    obtain ⟨B7, D7, eg⟩ := Own.form o2
    subst ef eg
    have S10 := Lib.hid (S9.out.add (Hl.mk2 oo o2 oa))
    clear S9
    clear hb oo o2 oa
    obtain ⟨w6, hw6⟩ : ∃ z, z = w5.alloc (.cells #[.int .i64 PG, .slice A7 XS.length C7, .int .i64 NG, .slice B7 YS.length D7] 50) := ⟨_, rfl⟩
    have S11 : Hid (Lq w [(.slice ga g.length gc, g), (.slice ha hs.length hc, hs), (.slice v1a e1.length v1c, e1), (.slice u1a t1.length u1c, t1)] [(w5.heap.size, [.int .i64 PG, .slice A7 XS.length C7, .int .i64 NG, .slice B7 YS.length D7]), ((w1.heap.size + 1 + 1), [.int .i64 s1, .slice v1a e1.length v1c, .int .i64 k1, .slice u1a t1.length u1c]), ((w1.heap.size + 1), [.int .i64 q, .slice ha hs.length hc]), (w1.heap.size, [.int .i64 p, .slice ga g.length gc])] [.p w4.heap.size w5.heap.size (.slice A7 XS.length C7) (.slice B7 YS.length D7) XS YS] w6) := Lib.hid (by rw [hw6]; exact S10.out.made [.int .i64 PG, .slice A7 XS.length C7, .int .i64 NG, .slice B7 YS.length D7] _)
    clear S10
    have Hw6 := Lib.hid hw6
    clear hw6
    go_wp2_with fail
    rw [← Hw6.out]
    refine (alive_any _ (G0.out.on S11.out.sx.be)).mono ?_
    rintro e w7 ⟨rfl, rfl⟩
    go_wp2
    go_ret
    exact ⟨rfl, S11.out.sx.be⟩
  · obtain ⟨y1, y2, y3, y4⟩ := HYES.out hMB
    have HY4 := Lib.hid y4
    clear y4
    subst y1 y2 y3
    go_wp2_with fail
    refine (((imd_any PG q NG _ _ _ g hs YS _ (S8.out.li _ (.head _)).ints (S8.out.li _ (.tail _ (.head _))).ints (S8.out.li _ (.tail _ (.tail _ (.tail _ (.head _))))).ints (S8.out.li _ (.tail _ (.tail _ (.tail _ (.head _))))).cap (S8.out.li _ (.head _)).num (S8.out.li _ (.tail _ (.head _))).num).mono fun _ _ h => h.x)).mono ?_
    rintro e w8 ⟨v9, u9, rfl, oo, o2, oa, hb⟩
    rw [HXS.out] at oo
    rw [HYS.out] at o2
    rw [HPG.out, HNG.out, hMB]
    clear q3_0 q3_1 q4_0 q4_1 q5_0 q5_1 q5_2 q5_3
    have S12 := Lib.hid (S8.out.on hb)
    clear S8
    obtain ⟨A7, C7, ef⟩ := Own.form oo
    obtain ⟨B7, D7, eg⟩ := Own.form o2
    subst ef eg
    have S13 := Lib.hid (S12.out.add (Hl.mk2 oo o2 oa))
    clear S12
    clear hb oo o2 oa
    obtain ⟨w9, hw9⟩ : ∃ z, z = w8.alloc (.cells #[.int .i64 PG, .slice A7 XS.length C7, .int .i64 NG, .slice B7 YS.length D7] 50) := ⟨_, rfl⟩
    have S14 : Hid (Lq w [(.slice ga g.length gc, g), (.slice ha hs.length hc, hs), (.slice v1a e1.length v1c, e1), (.slice u1a YS.length u1c, YS)] [(w8.heap.size, [.int .i64 PG, .slice A7 XS.length C7, .int .i64 NG, .slice B7 YS.length D7]), ((w1.heap.size + 1 + 1), [.int .i64 s1, .slice v1a e1.length v1c, .int .i64 NG, .slice u1a YS.length u1c]), ((w1.heap.size + 1), [.int .i64 q, .slice ha hs.length hc]), (w1.heap.size, [.int .i64 PG, .slice ga g.length gc])] [.p w4.heap.size w8.heap.size (.slice A7 XS.length C7) (.slice B7 YS.length D7) XS YS] w9) := Lib.hid (by rw [hw9]; exact S13.out.made [.int .i64 PG, .slice A7 XS.length C7, .int .i64 NG, .slice B7 YS.length D7] _)
    clear S13
    have Hw9 := Lib.hid hw9
    clear hw9
    have htt : (TK == TK) = true := by simp
    have q7_0 := (S14.out.sx.bx _ (.head _)).cell 0
    have q7_1 := (S14.out.sx.bx _ (.head _)).cell 1
    have q7_2 := (S14.out.sx.bx _ (.head _)).cell 2
    have q7_3 := (S14.out.sx.bx _ (.head _)).cell 3
    have q5_0 := (S14.out.sx.bx _ (.tail _ (.head _))).cell 0
    have q5_1 := (S14.out.sx.bx _ (.tail _ (.head _))).cell 1
    have q5_2 := (S14.out.sx.bx _ (.tail _ (.head _))).cell 2
    have q5_3 := (S14.out.sx.bx _ (.tail _ (.head _))).cell 3
    simp at q7_0 q7_1 q7_2 q7_3 q5_0 q5_1 q5_2 q5_3
    rw [Hw9.out] at q7_0 q7_1 q7_2 q7_3 q5_0 q5_1 q5_2 q5_3
    go_wp2_with fail
    rw [← Hw9.out]
    refine (ltn_gen PG s1 NG _ _ _ _ XS e1 YS _ (Ints.of_own (S14.out.sx.ls _ (.head _)).1 (few50 HXM.out)) (S14.out.li _ (.tail _ (.tail _ (.head _)))).ints (Ints.of_own (S14.out.sx.ls _ (.head _)).2.1 (fits50 (S14.out.li _ (.tail _ (.tail _ (.tail _ (.head _))))).few)) (S14.out.li _ (.tail _ (.tail _ (.tail _ (.head _))))).ints).mono ?_
    rintro e w10 ⟨rfl, hb⟩
    rw [HY4.out]
    clear q7_0 q7_1 q7_2 q7_3 q5_0 q5_1 q5_2 q5_3
    have S15 := Lib.hid (S14.out.on hb)
    clear S14
    clear hb
    go_wp2_with fail
    refine (alive_any _ (G0.out.on S15.out.sx.be)).mono ?_
    rintro e w11 ⟨rfl, rfl⟩
    go_wp2
    go_ret
    exact ⟨rfl, S15.out.sx.be⟩
end Go.Proofs.YtipndddmjgjgpabDoor
