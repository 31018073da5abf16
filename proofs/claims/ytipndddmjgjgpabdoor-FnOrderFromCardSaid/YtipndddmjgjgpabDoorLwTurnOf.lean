/- The law FnTurnOf, walked; sameTurn. -/
import Derived.Test.YtipndddmjgjgpabDoorRegionM
import Derived.Test.YtipndddmjgjgpabDoorDrK
import Derived.Test.YtipndddmjgjgpabDoorTrnX
import Derived.Test.YtipndddmjgjgpabDoorLwGraphMoved
import Derived.Deep.Cut
namespace Go.Proofs.YtipndddmjgjgpabDoor
open Go.RowKit

set_option maxHeartbeats 1600000 in
theorem ltn_eq (p n : Int) (v v' u u' : Value) (es ys : List Int) (w : World) (h1 : Ints w v es) (h2 : Ints w v' es) (k1 : Ints w u ys) (k2 : Ints w u' ys) :
    Calls Tryd.prog 40 #[.agg #[.int .i64 p, v, .int .i64 n, u], .agg #[.int .i64 p, v', .int .i64 n, u']] w fun e w' => e = .returned (.bool true) ∧ Below w.heap.size w w' := by
  obtain ⟨p0, p1, pl⟩ := boxes2 (P := [.int .i64 p, v, .int .i64 n, u]) (R := [.int .i64 p, v', .int .i64 n, u']) (Below.refl ((w.alloc (.cells #[.int .i64 p, v, .int .i64 n, u] 50)).alloc (.cells #[.int .i64 p, v', .int .i64 n, u'] 50)).heap.size _)
  have a0 := p0.cell 0
  have a1 := p0.cell 1
  have b0 := p1.cell 0
  have b1 := p1.cell 1
  simp at a0 a1 b0 b1
  have P0 := Lib.hid p0
  have P1 := Lib.hid p1
  have PL := Lib.hid pl
  have H1 := Lib.hid (h1.below pl)
  have H2 := Lib.hid (h2.below pl)
  have K1 := Lib.hid (k1.below pl)
  have K2 := Lib.hid (k2.below pl)
  have hd : (n == n) = true := by simp
  clear p0 p1 pl h1 h2 k1 k2
  go_enter Tryd.func40, Tryd.ntmps40
  go_wp2_with fail
  refine (lsg_eq p _ _ es _ H1.out H2.out).mono ?_
  rintro e w1 ⟨rfl, hb⟩
  have B1 := Lib.hid (Below.on PL.out hb)
  have Q0 := Lib.hid (P0.out.on hb)
  have Q1 := Lib.hid (P1.out.on hb)
  have J1 := Lib.hid (K1.out.below hb)
  have J2 := Lib.hid (K2.out.below hb)
  clear hb a0 a1 b0 b1 P0 P1 PL K1 K2 H1 H2
  have a2 := Q0.out.cell 2
  have a3 := Q0.out.cell 3
  have b2 := Q1.out.cell 2
  have b3 := Q1.out.cell 3
  simp at a2 a3 b2 b3
  go_wp2_with fail
  refine (same_eq _ _ ys _ J1.out J2.out).mono ?_
  rintro e w2 ⟨rfl, hb⟩
  have B2 := Lib.hid (Below.on B1.out hb)
  clear hb a2 a3 b2 b3
  go_wp2
  go_ret
  exact ⟨rfl, B2.out⟩

/-- What the law says of a turn made with an order known: P74, P75. -/
structure TfFacts (p : Int) (g : List Int) (q : Int) (h known further : List Int) (ask PG : Int) (XS : List Int) (NG : Int) (YS : List Int) : Prop where
  right : tkT p g q h PG XS NG YS = true
  op : ofPx p g q h known further (1 - ask) = PG
  oe : ofEx p g q h known further (1 - ask) = XS
  ob : ofT p g q h known further (1 - ask) = true
  an : 0 ≤ ask ∧ ask ≤ 1
theorem tf_facts {p q ask : Int} {g h known further : List Int} (k : ofT p g q h known further ask = true) :
    TfFacts p g q h known further ask (ofPx p g q h known further ask) (ofEx p g q h known further ask) (ofNx p g q h known further ask) (ofYx p g q h known further ask) := by
  have k1 := ofT_true.1 k
  have k2 := ofT_true.2 k1.other
  refine ⟨?_, ?_, ?_, k2, k1.a0, k1.a1⟩
  · simp only [ofPx, ofEx, ofNx, ofYx, k, if_true]; exact k1.right
  · simp only [ofPx, k, k2, if_true]
  · simp only [ofEx, k, k2, if_true]

set_option maxRecDepth 100000 in
set_option maxHeartbeats 6400000 in
theorem lTurnOf_walk (s : Value) (w : World) (h : CodeIn w s) (G : Gr w) : Calls Tryd.prog 10 #[s] w fun e w' => e = .returned (.bool true) ∧ Below w.heap.size w w' := by
  obtain ⟨a0, len0, cap0, rfl⟩ := h.slice
  have H := Lib.hid h; clear h
  have G0 := Lib.hid G; clear G
  by_cases hl : 1048576 < len0
  · go_enter Tryd.func10, Tryd.ntmps10
    go_wp2
    go_ret
    exact ⟨rfl, Below.refl _ _⟩
  go_enter Tryd.func10, Tryd.ntmps10
  go_wp2_with fail
  refine (drawTurnOf_any _ _ H.out).mono ?_
  rintro e w1 ⟨p, gv, g, q, hv, hs, ov, os, fv, fs, ask, rfl, hp, hq, hask, l1, l2, l3, l4, hb⟩
  have X1 := Lib.hid l1
  have X2 := Lib.hid l2
  have X3 := Lib.hid l3
  have X4 := Lib.hid l4
  clear l1 l2 l3 l4
  have S1 := Lib.hid (Lq.start hb)
  clear hb
  obtain ⟨ga, gc, e0⟩ := Own.form_ints X1.out.ints
  subst e0
  obtain ⟨ha, hc, e1⟩ := Own.form_ints X2.out.ints
  subst e1
  obtain ⟨oa, oc, e2⟩ := Own.form_ints X3.out.ints
  subst e2
  obtain ⟨fa, fc, e3⟩ := Own.form_ints X4.out.ints
  subst e3
  have S2 := Lib.hid (S1.out.more X4.out)
  clear S1
  have S3 := Lib.hid (S2.out.more X3.out)
  clear S2
  have S4 := Lib.hid (S3.out.more X2.out)
  clear S3
  have S5 := Lib.hid (S4.out.more X1.out)
  clear S4
  clear X1 X2 X3 X4
  obtain ⟨PG, hPG⟩ : ∃ r, ofPx p g q hs os fs ask = r := ⟨_, rfl⟩
  obtain ⟨XS, hXS⟩ : ∃ r, ofEx p g q hs os fs ask = r := ⟨_, rfl⟩
  obtain ⟨NG, hNG⟩ : ∃ r, ofNx p g q hs os fs ask = r := ⟨_, rfl⟩
  obtain ⟨YS, hYS⟩ : ∃ r, ofYx p g q hs os fs ask = r := ⟨_, rfl⟩
  obtain ⟨BB, hBB⟩ : ∃ r, ofT p g q hs os fs ask = r := ⟨_, rfl⟩
  have HXM : Hid (XS.length ≤ 50) := Lib.hid (by rw [← hXS]; exact ofEx_few)
  have HYM : Hid (YS.length ≤ 5) := Lib.hid (by rw [← hYS]; exact ofYx_few)
  have HFF : Hid (BB = true → TfFacts p g q hs os fs ask PG XS NG YS) := Lib.hid (fun e => by rw [← hPG, ← hXS, ← hNG, ← hYS]; exact tf_facts (hBB.trans e))
  have HF0 : Hid (BB = false → PG = 0) := Lib.hid (fun e => by rw [← hPG]; unfold ofPx; rw [hBB, e]; rfl)
  have HPG := Lib.hid hPG
  clear hPG
  have HXS := Lib.hid hXS
  clear hXS
  have HNG := Lib.hid hNG
  clear hNG
  have HYS := Lib.hid hYS
  clear hYS
  have HBB := Lib.hid hBB
  clear hBB
  have IP : Hid (intIn p) := Lib.hid ⟨by omega, by omega⟩
  have IQ : Hid (intIn q) := Lib.hid ⟨by omega, by omega⟩
  obtain ⟨w2, hw2⟩ : ∃ z, z = ((w1.alloc (.cells #[.int .i64 p, .slice ga g.length gc] 25)).alloc (.cells #[.int .i64 q, .slice ha hs.length hc] 25)) := ⟨_, rfl⟩
  have S6 : Hid (Lq w [(.slice ga g.length gc, g), (.slice ha hs.length hc, hs), (.slice oa os.length oc, os), (.slice fa fs.length fc, fs)] [((w1.heap.size + 1), [.int .i64 q, .slice ha hs.length hc]), (w1.heap.size, [.int .i64 p, .slice ga g.length gc])] [] w2) := Lib.hid (by rw [hw2]; have h9 := ((S5.out.made [.int .i64 p, .slice ga g.length gc] 25).made [.int .i64 q, .slice ha hs.length hc] 25); simpa using h9)
  clear S5
  have Hw2 := Lib.hid hw2
  clear hw2
  have q3_0 := (S6.out.sx.bx _ (.tail _ (.head _))).cell 0
  have q3_1 := (S6.out.sx.bx _ (.tail _ (.head _))).cell 1
  have q4_0 := (S6.out.sx.bx _ (.head _)).cell 0
  have q4_1 := (S6.out.sx.bx _ (.head _)).cell 1
  simp at q3_0 q3_1 q4_0 q4_1
  rw [Hw2.out] at q3_0 q3_1 q4_0 q4_1
  go_wp2_with fail
  rw [← Hw2.out]
  refine (((itof_any p q ask _ _ _ _ g hs os fs _ (S6.out.li _ (.head _)).ints (S6.out.li _ (.tail _ (.head _))).ints (S6.out.li _ (.tail _ (.tail _ (.head _)))).ints (S6.out.li _ (.tail _ (.tail _ (.tail _ (.head _))))).ints (S6.out.li _ (.tail _ (.tail _ (.head _)))).cap (S6.out.li _ (.tail _ (.tail _ (.tail _ (.head _))))).cap (S6.out.li _ (.head _)).num (S6.out.li _ (.tail _ (.head _))).num).mono fun _ _ h => h.x)).mono ?_
  rintro e w3 ⟨v9, u9, rfl, oo, o2, oa, hb⟩
  rw [HXS.out] at oo
  rw [HYS.out] at o2
  rw [HPG.out, HNG.out, HBB.out]
  clear q3_0 q3_1 q4_0 q4_1
  have S7 := Lib.hid (S6.out.on hb)
  clear S6
  obtain ⟨A8, C8, ef⟩ := Own.form oo
  obtain ⟨B8, D8, eg⟩ := Own.form o2
  subst ef eg
  have S8 := Lib.hid (S7.out.add (Hl.mk2 oo o2 oa))
  clear S7
  clear hb oo o2 oa
  obtain ⟨w4, hw4⟩ : ∃ z, z = w3.alloc (.cells #[.int .i64 PG, .slice A8 XS.length C8, .int .i64 NG, .slice B8 YS.length D8] 50) := ⟨_, rfl⟩
  have S9 : Hid (Lq w [(.slice ga g.length gc, g), (.slice ha hs.length hc, hs), (.slice oa os.length oc, os), (.slice fa fs.length fc, fs)] [(w3.heap.size, [.int .i64 PG, .slice A8 XS.length C8, .int .i64 NG, .slice B8 YS.length D8]), ((w1.heap.size + 1), [.int .i64 q, .slice ha hs.length hc]), (w1.heap.size, [.int .i64 p, .slice ga g.length gc])] [.p w2.heap.size w3.heap.size (.slice A8 XS.length C8) (.slice B8 YS.length D8) XS YS] w4) := Lib.hid (by rw [hw4]; exact S8.out.made [.int .i64 PG, .slice A8 XS.length C8, .int .i64 NG, .slice B8 YS.length D8] _)
  clear S8
  have Hw4 := Lib.hid hw4
  clear hw4
  have q3_0 := (S9.out.sx.bx _ (.tail _ (.tail _ (.head _)))).cell 0
  have q3_1 := (S9.out.sx.bx _ (.tail _ (.tail _ (.head _)))).cell 1
  have q4_0 := (S9.out.sx.bx _ (.tail _ (.head _))).cell 0
  have q4_1 := (S9.out.sx.bx _ (.tail _ (.head _))).cell 1
  simp at q3_0 q3_1 q4_0 q4_1
  rw [Hw4.out] at q3_0 q3_1 q4_0 q4_1
  go_wp2_with fail
  rw [← Hw4.out]
  refine (((stof_any p q ask _ _ _ _ g hs os fs _ (S9.out.li _ (.head _)).ints (S9.out.li _ (.tail _ (.head _))).ints (S9.out.li _ (.tail _ (.tail _ (.head _)))).ints (S9.out.li _ (.tail _ (.tail _ (.tail _ (.head _))))).ints IP.out IQ.out (S9.out.li _ (.head _)).num (S9.out.li _ (.tail _ (.head _))).num).mono fun _ _ h => h.x)).mono ?_
  rintro e w5 ⟨v9, u9, rfl, oo, o2, oa, hb⟩
  rw [HXS.out] at oo
  rw [HYS.out] at o2
  rw [HPG.out, HNG.out, HBB.out]
  clear q3_0 q3_1 q4_0 q4_1
  have S10 := Lib.hid (S9.out.on hb)
  clear S9
  obtain ⟨A10, C10, ef⟩ := Own.form oo
  obtain ⟨B10, D10, eg⟩ := Own.form o2
  subst ef eg
  have S11 := Lib.hid (S10.out.add (Hl.mk2 oo o2 oa))
  clear S10
  clear hb oo o2 oa
  obtain ⟨w6, hw6⟩ : ∃ z, z = w5.alloc (.cells #[.int .i64 PG, .slice A10 XS.length C10, .int .i64 NG, .slice B10 YS.length D10] 50) := ⟨_, rfl⟩
  have S12 : Hid (Lq w [(.slice ga g.length gc, g), (.slice ha hs.length hc, hs), (.slice oa os.length oc, os), (.slice fa fs.length fc, fs)] [(w5.heap.size, [.int .i64 PG, .slice A10 XS.length C10, .int .i64 NG, .slice B10 YS.length D10]), (w3.heap.size, [.int .i64 PG, .slice A8 XS.length C8, .int .i64 NG, .slice B8 YS.length D8]), ((w1.heap.size + 1), [.int .i64 q, .slice ha hs.length hc]), (w1.heap.size, [.int .i64 p, .slice ga g.length gc])] [.p w4.heap.size w5.heap.size (.slice A10 XS.length C10) (.slice B10 YS.length D10) XS YS, .p w2.heap.size w3.heap.size (.slice A8 XS.length C8) (.slice B8 YS.length D8) XS YS] w6) := Lib.hid (by rw [hw6]; exact S11.out.made [.int .i64 PG, .slice A10 XS.length C10, .int .i64 NG, .slice B10 YS.length D10] _)
  clear S11
  have Hw6 := Lib.hid hw6
  clear hw6
  have q8_0 := (S12.out.sx.bx _ (.tail _ (.head _))).cell 0
  have q8_1 := (S12.out.sx.bx _ (.tail _ (.head _))).cell 1
  have q8_2 := (S12.out.sx.bx _ (.tail _ (.head _))).cell 2
  have q8_3 := (S12.out.sx.bx _ (.tail _ (.head _))).cell 3
  have q10_0 := (S12.out.sx.bx _ (.head _)).cell 0
  have q10_1 := (S12.out.sx.bx _ (.head _)).cell 1
  have q10_2 := (S12.out.sx.bx _ (.head _)).cell 2
  have q10_3 := (S12.out.sx.bx _ (.head _)).cell 3
  simp at q8_0 q8_1 q8_2 q8_3 q10_0 q10_1 q10_2 q10_3
  rw [Hw6.out] at q8_0 q8_1 q8_2 q8_3 q10_0 q10_1 q10_2 q10_3
  have hbb : (BB != BB) = false := by simp
  go_wp2_with fail
  rw [← Hw6.out]
  refine (ltn_eq PG NG _ _ _ _ XS YS _ (Ints.of_own (S12.out.sx.ls _ (.tail _ (.head _))).1 (few50 HXM.out)) (Ints.of_own (S12.out.sx.ls _ (.head _)).1 (few50 HXM.out)) (Ints.of_own (S12.out.sx.ls _ (.tail _ (.head _))).2.1 (few5 HYM.out)) (Ints.of_own (S12.out.sx.ls _ (.head _)).2.1 (few5 HYM.out))).mono ?_
  rintro e w7 ⟨rfl, hb⟩
  have S13 := Lib.hid (S12.out.on hb)
  clear S12
  clear hb
  clear q8_0 q8_1 q8_2 q8_3 q10_0 q10_1 q10_2 q10_3
  cases BB
  · have hp0 := HF0.out rfl
    subst hp0
    have q8_0 := (S13.out.sx.bx _ (.tail _ (.head _))).cell 0
    have q8_1 := (S13.out.sx.bx _ (.tail _ (.head _))).cell 1
    have q8_2 := (S13.out.sx.bx _ (.tail _ (.head _))).cell 2
    have q8_3 := (S13.out.sx.bx _ (.tail _ (.head _))).cell 3
    simp at q8_0 q8_1 q8_2 q8_3
    go_wp2_with fail
    refine (alive_any _ (G0.out.on S13.out.sx.be)).mono ?_
    rintro e w8 ⟨rfl, rfl⟩
    go_wp2
    go_ret
    exact ⟨rfl, S13.out.sx.be⟩
  · have HF := Lib.hid (HFF.out rfl)
    have han := HF.out.an
    have HCP : Hid (capB (.slice B8 YS.length D8)) := Lib.hid (S13.out.sx.ls _ (.tail _ (.head _))).2.1.capped
    have q3_0 := (S13.out.sx.bx _ (.tail _ (.tail _ (.tail _ (.head _))))).cell 0
    have q3_1 := (S13.out.sx.bx _ (.tail _ (.tail _ (.tail _ (.head _))))).cell 1
    have q4_0 := (S13.out.sx.bx _ (.tail _ (.tail _ (.head _)))).cell 0
    have q4_1 := (S13.out.sx.bx _ (.tail _ (.tail _ (.head _)))).cell 1
    simp at q3_0 q3_1 q4_0 q4_1
    obtain ⟨Y2, hY2⟩ : ∃ r, ofYx p g q hs os fs (1 - ask) = r := ⟨_, rfl⟩
    obtain ⟨N2, hN2⟩ : ∃ r, ofNx p g q hs os fs (1 - ask) = r := ⟨_, rfl⟩
    have HY2 := Lib.hid hY2
    have HN2 := Lib.hid hN2
    clear hY2 hN2
    go_wp2_with fail
    refine (((itof_any p q (1 - ask) _ _ _ _ g hs os fs _ (S13.out.li _ (.head _)).ints (S13.out.li _ (.tail _ (.head _))).ints (S13.out.li _ (.tail _ (.tail _ (.head _)))).ints (S13.out.li _ (.tail _ (.tail _ (.tail _ (.head _))))).ints (S13.out.li _ (.tail _ (.tail _ (.head _)))).cap (S13.out.li _ (.tail _ (.tail _ (.tail _ (.head _))))).cap (S13.out.li _ (.head _)).num (S13.out.li _ (.tail _ (.head _))).num).mono fun _ _ h => h.x)).mono ?_
    rintro e w9 ⟨v9, u9, rfl, oo, o2, oa, hb⟩
    rw [HF.out.oe] at oo
    rw [HY2.out] at o2
    rw [HF.out.op, HF.out.ob, HN2.out]
    clear q3_0 q3_1 q4_0 q4_1
    have S14 := Lib.hid (S13.out.on hb)
    clear S13
    obtain ⟨A12, C12, ef⟩ := Own.form oo
    obtain ⟨B12, D12, eg⟩ := Own.form o2
    subst ef eg
    have S15 := Lib.hid (S14.out.add (Hl.mk2 oo o2 oa))
    clear S14
    clear hb oo o2 oa
    obtain ⟨w10, hw10⟩ : ∃ z, z = w9.alloc (.cells #[.int .i64 PG, .slice A12 XS.length C12, .int .i64 N2, .slice B12 Y2.length D12] 50) := ⟨_, rfl⟩
    have S16 : Hid (Lq w [(.slice ga g.length gc, g), (.slice ha hs.length hc, hs), (.slice oa os.length oc, os), (.slice fa fs.length fc, fs)] [(w9.heap.size, [.int .i64 PG, .slice A12 XS.length C12, .int .i64 N2, .slice B12 Y2.length D12]), (w5.heap.size, [.int .i64 PG, .slice A10 XS.length C10, .int .i64 NG, .slice B10 YS.length D10]), (w3.heap.size, [.int .i64 PG, .slice A8 XS.length C8, .int .i64 NG, .slice B8 YS.length D8]), ((w1.heap.size + 1), [.int .i64 q, .slice ha hs.length hc]), (w1.heap.size, [.int .i64 p, .slice ga g.length gc])] [.p w7.heap.size w9.heap.size (.slice A12 XS.length C12) (.slice B12 Y2.length D12) XS Y2, .p w4.heap.size w5.heap.size (.slice A10 XS.length C10) (.slice B10 YS.length D10) XS YS, .p w2.heap.size w3.heap.size (.slice A8 XS.length C8) (.slice B8 YS.length D8) XS YS] w10) := Lib.hid (by rw [hw10]; exact S15.out.made [.int .i64 PG, .slice A12 XS.length C12, .int .i64 N2, .slice B12 Y2.length D12] _)
    clear S15
    have Hw10 := Lib.hid hw10
    clear hw10
    have q3_0 := (S16.out.sx.bx _ (.tail _ (.tail _ (.tail _ (.tail _ (.head _)))))).cell 0
    have q3_1 := (S16.out.sx.bx _ (.tail _ (.tail _ (.tail _ (.tail _ (.head _)))))).cell 1
    have q4_0 := (S16.out.sx.bx _ (.tail _ (.tail _ (.tail _ (.head _))))).cell 0
    have q4_1 := (S16.out.sx.bx _ (.tail _ (.tail _ (.tail _ (.head _))))).cell 1
    have q8_0 := (S16.out.sx.bx _ (.tail _ (.tail _ (.head _)))).cell 0
    have q8_1 := (S16.out.sx.bx _ (.tail _ (.tail _ (.head _)))).cell 1
    have q8_2 := (S16.out.sx.bx _ (.tail _ (.tail _ (.head _)))).cell 2
    have q8_3 := (S16.out.sx.bx _ (.tail _ (.tail _ (.head _)))).cell 3
    simp at q3_0 q3_1 q4_0 q4_1 q8_0 q8_1 q8_2 q8_3
    rw [Hw10.out] at q3_0 q3_1 q4_0 q4_1 q8_0 q8_1 q8_2 q8_3
    go_wp2_with fail
    rw [← Hw10.out]
    refine (itrn_any p q PG NG _ _ _ _ g hs XS YS _ (S16.out.li _ (.head _)).ints (S16.out.li _ (.tail _ (.head _))).ints (Ints.of_own (S16.out.sx.ls _ (.tail _ (.tail _ (.head _)))).1 (few50 HXM.out)) (Ints.of_own (S16.out.sx.ls _ (.tail _ (.tail _ (.head _)))).2.1 (few5 HYM.out)) HCP.out (S16.out.li _ (.head _)).num (S16.out.li _ (.tail _ (.head _))).num).mono ?_
    rintro e w11 ⟨rfl, hb⟩
    rw [HF.out.right]
    clear q3_0 q3_1 q4_0 q4_1 q8_0 q8_1 q8_2 q8_3
    have S17 := Lib.hid (S16.out.on hb)
    clear S16
    clear hb
    have q12_0 := (S17.out.sx.bx _ (.head _)).cell 0
    have q12_1 := (S17.out.sx.bx _ (.head _)).cell 1
    have q12_2 := (S17.out.sx.bx _ (.head _)).cell 2
    have q12_3 := (S17.out.sx.bx _ (.head _)).cell 3
    have q8_0 := (S17.out.sx.bx _ (.tail _ (.tail _ (.head _)))).cell 0
    have q8_1 := (S17.out.sx.bx _ (.tail _ (.tail _ (.head _)))).cell 1
    have q8_2 := (S17.out.sx.bx _ (.tail _ (.tail _ (.head _)))).cell 2
    have q8_3 := (S17.out.sx.bx _ (.tail _ (.tail _ (.head _)))).cell 3
    simp at q12_0 q12_1 q12_2 q12_3 q8_0 q8_1 q8_2 q8_3
    go_wp2_with fail
    refine (lsg_eq PG _ _ XS _ (Ints.of_own (S17.out.sx.ls _ (.head _)).1 (few50 HXM.out)) (Ints.of_own (S17.out.sx.ls _ (.tail _ (.tail _ (.head _)))).1 (few50 HXM.out))).mono ?_
    rintro e w12 ⟨rfl, hb⟩
    have S18 := Lib.hid (S17.out.on hb)
    clear S17
    clear hb
    clear q12_0 q12_1 q12_2 q12_3 q8_0 q8_1 q8_2 q8_3
    go_wp2
    go_ret
    exact ⟨rfl, S18.out.sx.be⟩
end Go.Proofs.YtipndddmjgjgpabDoor
