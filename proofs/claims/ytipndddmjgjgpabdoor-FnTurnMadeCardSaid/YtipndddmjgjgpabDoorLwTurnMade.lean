/- The law FnTurnMade, walked. -/
import Derived.Test.YtipndddmjgjgpabDoorLwTurnOf
import Derived.Test.YtipndddmjgjgpabDoorBtsS
import Derived.Test.YtipndddmjgjgpabDoorBLot
namespace Go.Proofs.YtipndddmjgjgpabDoor
open Go.RowKit

theorem btw_few {p q : Int} {g h : List Int} (hp : p ≤ 5) : ∀ x, x ∈ btw p g q h → x.length ≤ 5 := fun x hx => by
  have h1 := (btw_mem.1 hx).2.1
  have := h1.len; have := h1.m5; omega
/-- What the law says of a turn made without an order: P73, P76. -/
structure TmFacts (p : Int) (g : List Int) (q : Int) (h : List Int) (ask : Int) (tell : List Int) (PG : Int) (XS : List Int) (NG : Int) (YS : List Int) : Prop where
  right : tkT p g q h PG XS NG YS = true
  each : ∀ x, x ∈ btw p g q h → ∀ f, f = (if ask = 1 then thn x tell else tell) → ofPx p g q h x f ask = PG ∧ ofEx p g q h x f ask = XS ∧ ofNx p g q h x f ask = NG ∧ ofYx p g q h x f ask = YS ∧ ofT p g q h x f ask = true
  th : ∀ x, x ∈ btw p g q h → thL x tell = thn x tell
theorem tm_facts {p q ask : Int} {g h tell : List Int} (k : mdT p g q h ask tell = true) :
    TmFacts p g q h ask tell (mdPx p g q h ask tell) (mdEx p g q h ask tell) (mdNx p g q h ask tell) (mdYx p g q h ask tell) := by
  have k1 := mdT_true.1 k
  refine ⟨?_, fun x hx f hf => ?_, fun x hx => ?_⟩
  · simp only [mdPx, mdEx, mdNx, mdYx, k, if_true]; exact tkT_true.2 ⟨k1, rfl, rfl⟩
  · obtain ⟨h1, h2, h3⟩ := k1.true_ hx
    rw [← hf] at h1 h2 h3
    have h4 := ofT_true.2 h1
    simp only [ofPx, ofEx, ofNx, ofYx, mdPx, mdEx, mdNx, mdYx, k, h4, if_true]
    exact ⟨trivial, h2, trivial, h3, trivial⟩
  · have ox := (btw_mem.1 hx).2.1
    exact thL_yes (thB_true.2 (by rw [ox.len]; exact ⟨ox, k1.o⟩))

set_option maxRecDepth 100000 in
set_option maxHeartbeats 6400000 in
theorem lTurnMade_walk (s : Value) (w : World) (h : CodeIn w s) (G : Gr w) : Calls Tryd.prog 11 #[s] w fun e w' => e = .returned (.bool true) ∧ Below w.heap.size w w' := by
  obtain ⟨a0, len0, cap0, rfl⟩ := h.slice
  have H := Lib.hid h; clear h
  have G0 := Lib.hid G; clear G
  by_cases hl : 1048576 < len0
  · go_enter Tryd.func11, Tryd.ntmps11
    go_wp2
    go_ret
    exact ⟨rfl, Below.refl _ _⟩
  go_enter Tryd.func11, Tryd.ntmps11
  go_wp2_with fail
  refine (drawTurnMade_any _ _ H.out).mono ?_
  rintro e w1 ⟨p, gv, g, q, hv, hs, ask, fv, fs, rfl, hp, hq, hask, l1, l2, l4, hb⟩
  have X1 := Lib.hid l1
  have X2 := Lib.hid l2
  have X4 := Lib.hid l4
  clear l1 l2 l4
  have S1 := Lib.hid (Lq.start hb)
  clear hb
  obtain ⟨ga, gc, e1⟩ := Own.form_ints X1.out.ints
  subst e1
  obtain ⟨ha, hc, e2⟩ := Own.form_ints X2.out.ints
  subst e2
  obtain ⟨fa, fc, e4⟩ := Own.form_ints X4.out.ints
  subst e4
  have S2 := Lib.hid (S1.out.more X4.out)
  clear S1
  have S3 := Lib.hid (S2.out.more X2.out)
  clear S2
  have S4 := Lib.hid (S3.out.more X1.out)
  clear S3
  clear X1 X2 X4
  obtain ⟨PG, hPG⟩ : ∃ r, mdPx p g q hs ask fs = r := ⟨_, rfl⟩
  obtain ⟨XS, hXS⟩ : ∃ r, mdEx p g q hs ask fs = r := ⟨_, rfl⟩
  obtain ⟨NG, hNG⟩ : ∃ r, mdNx p g q hs ask fs = r := ⟨_, rfl⟩
  obtain ⟨YS, hYS⟩ : ∃ r, mdYx p g q hs ask fs = r := ⟨_, rfl⟩
  obtain ⟨BB, hBB⟩ : ∃ r, mdT p g q hs ask fs = r := ⟨_, rfl⟩
  have HXM : Hid (XS.length ≤ 50) := Lib.hid (by rw [← hXS]; exact mdEx_few)
  have HYM : Hid (YS.length ≤ 5) := Lib.hid (by rw [← hYS]; exact mdYx_few)
  have HFF : Hid (BB = true → TmFacts p g q hs ask fs PG XS NG YS) := Lib.hid (fun e => by rw [← hPG, ← hXS, ← hNG, ← hYS]; exact tm_facts (hBB.trans e))
  have HF0 : Hid (BB = false → PG = 0) := Lib.hid (fun e => by rw [← hPG]; unfold mdPx; rw [hBB, e]; rfl)
  have HPG := Lib.hid hPG
  clear hPG
  have HXS := Lib.hid hXS
  clear hXS
  have HNG := Lib.hid hNG
  clear hNG
  have HYS := Lib.hid hYS
  clear hYS
  have HBB := Lib.hid hBB
  clear hBB
  have IP : Hid (intIn p) := Lib.hid ⟨by omega, by omega⟩
  have IQ : Hid (intIn q) := Lib.hid ⟨by omega, by omega⟩
  have HP5 : Hid (p ≤ 5) := Lib.hid hp.2
  obtain ⟨w2, hw2⟩ : ∃ z, z = ((w1.alloc (.cells #[.int .i64 p, .slice ga g.length gc] 25)).alloc (.cells #[.int .i64 q, .slice ha hs.length hc] 25)) := ⟨_, rfl⟩
  have S5 : Hid (Lq w [(.slice ga g.length gc, g), (.slice ha hs.length hc, hs), (.slice fa fs.length fc, fs)] [((w1.heap.size + 1), [.int .i64 q, .slice ha hs.length hc]), (w1.heap.size, [.int .i64 p, .slice ga g.length gc])] [] w2) := Lib.hid (by rw [hw2]; have h9 := ((S4.out.made [.int .i64 p, .slice ga g.length gc] 25).made [.int .i64 q, .slice ha hs.length hc] 25); simpa using h9)
  clear S4
  have Hw2 := Lib.hid hw2
  clear hw2
  have q3_0 := (S5.out.sx.bx _ (.tail _ (.head _))).cell 0
  have q3_1 := (S5.out.sx.bx _ (.tail _ (.head _))).cell 1
  have q4_0 := (S5.out.sx.bx _ (.head _)).cell 0
  have q4_1 := (S5.out.sx.bx _ (.head _)).cell 1
  simp at q3_0 q3_1 q4_0 q4_1
  rw [Hw2.out] at q3_0 q3_1 q4_0 q4_1
  go_wp2_with fail
  rw [← Hw2.out]
  refine (((imd_any p q ask _ _ _ g hs fs _ (S5.out.li _ (.head _)).ints (S5.out.li _ (.tail _ (.head _))).ints (S5.out.li _ (.tail _ (.tail _ (.head _)))).ints (S5.out.li _ (.tail _ (.tail _ (.head _)))).cap (S5.out.li _ (.head _)).num (S5.out.li _ (.tail _ (.head _))).num).mono fun _ _ h => h.x)).mono ?_
  rintro e w3 ⟨v9, u9, rfl, oo, o2, oa, hb⟩
  rw [HXS.out] at oo
  rw [HYS.out] at o2
  rw [HPG.out, HNG.out, HBB.out]
  clear q3_0 q3_1 q4_0 q4_1
  have S6 := Lib.hid (S5.out.on hb)
  clear S5
  obtain ⟨A7, C7, ef⟩ := Own.form oo
  obtain ⟨B7, D7, eg⟩ := Own.form o2
  subst ef eg
  have S7 := Lib.hid (S6.out.add (Hl.mk2 oo o2 oa))
  clear S6
  clear hb oo o2 oa
  obtain ⟨w4, hw4⟩ : ∃ z, z = w3.alloc (.cells #[.int .i64 PG, .slice A7 XS.length C7, .int .i64 NG, .slice B7 YS.length D7] 50) := ⟨_, rfl⟩
  have S8 : Hid (Lq w [(.slice ga g.length gc, g), (.slice ha hs.length hc, hs), (.slice fa fs.length fc, fs)] [(w3.heap.size, [.int .i64 PG, .slice A7 XS.length C7, .int .i64 NG, .slice B7 YS.length D7]), ((w1.heap.size + 1), [.int .i64 q, .slice ha hs.length hc]), (w1.heap.size, [.int .i64 p, .slice ga g.length gc])] [.p w2.heap.size w3.heap.size (.slice A7 XS.length C7) (.slice B7 YS.length D7) XS YS] w4) := Lib.hid (by rw [hw4]; exact S7.out.made [.int .i64 PG, .slice A7 XS.length C7, .int .i64 NG, .slice B7 YS.length D7] _)
  clear S7
  have Hw4 := Lib.hid hw4
  clear hw4
  have q3_0 := (S8.out.sx.bx _ (.tail _ (.tail _ (.head _)))).cell 0
  have q3_1 := (S8.out.sx.bx _ (.tail _ (.tail _ (.head _)))).cell 1
  have q4_0 := (S8.out.sx.bx _ (.tail _ (.head _))).cell 0
  have q4_1 := (S8.out.sx.bx _ (.tail _ (.head _))).cell 1
  simp at q3_0 q3_1 q4_0 q4_1
  rw [Hw4.out] at q3_0 q3_1 q4_0 q4_1
  go_wp2_with fail
  rw [← Hw4.out]
  refine (((stmd_any p q ask _ _ _ g hs fs _ (S8.out.li _ (.head _)).ints (S8.out.li _ (.tail _ (.head _))).ints (S8.out.li _ (.tail _ (.tail _ (.head _)))).ints IP.out IQ.out (S8.out.li _ (.head _)).num (S8.out.li _ (.tail _ (.head _))).num).mono fun _ _ h => h.x)).mono ?_
  rintro e w5 ⟨v9, u9, rfl, oo, o2, oa, hb⟩
  rw [HXS.out] at oo
  rw [HYS.out] at o2
  rw [HPG.out, HNG.out, HBB.out]
  clear q3_0 q3_1 q4_0 q4_1
  have S9 := Lib.hid (S8.out.on hb)
  clear S8
  obtain ⟨A9, C9, ef⟩ := Own.form oo
  obtain ⟨B9, D9, eg⟩ := Own.form o2
  subst ef eg
  have S10 := Lib.hid (S9.out.add (Hl.mk2 oo o2 oa))
  clear S9
  clear hb oo o2 oa
  obtain ⟨w6, hw6⟩ : ∃ z, z = w5.alloc (.cells #[.int .i64 PG, .slice A9 XS.length C9, .int .i64 NG, .slice B9 YS.length D9] 50) := ⟨_, rfl⟩
  have S11 : Hid (Lq w [(.slice ga g.length gc, g), (.slice ha hs.length hc, hs), (.slice fa fs.length fc, fs)] [(w5.heap.size, [.int .i64 PG, .slice A9 XS.length C9, .int .i64 NG, .slice B9 YS.length D9]), (w3.heap.size, [.int .i64 PG, .slice A7 XS.length C7, .int .i64 NG, .slice B7 YS.length D7]), ((w1.heap.size + 1), [.int .i64 q, .slice ha hs.length hc]), (w1.heap.size, [.int .i64 p, .slice ga g.length gc])] [.p w4.heap.size w5.heap.size (.slice A9 XS.length C9) (.slice B9 YS.length D9) XS YS, .p w2.heap.size w3.heap.size (.slice A7 XS.length C7) (.slice B7 YS.length D7) XS YS] w6) := Lib.hid (by rw [hw6]; exact S10.out.made [.int .i64 PG, .slice A9 XS.length C9, .int .i64 NG, .slice B9 YS.length D9] _)
  clear S10
  have Hw6 := Lib.hid hw6
  clear hw6
  have q7_0 := (S11.out.sx.bx _ (.tail _ (.head _))).cell 0
  have q7_1 := (S11.out.sx.bx _ (.tail _ (.head _))).cell 1
  have q7_2 := (S11.out.sx.bx _ (.tail _ (.head _))).cell 2
  have q7_3 := (S11.out.sx.bx _ (.tail _ (.head _))).cell 3
  have q9_0 := (S11.out.sx.bx _ (.head _)).cell 0
  have q9_1 := (S11.out.sx.bx _ (.head _)).cell 1
  have q9_2 := (S11.out.sx.bx _ (.head _)).cell 2
  have q9_3 := (S11.out.sx.bx _ (.head _)).cell 3
  simp at q7_0 q7_1 q7_2 q7_3 q9_0 q9_1 q9_2 q9_3
  rw [Hw6.out] at q7_0 q7_1 q7_2 q7_3 q9_0 q9_1 q9_2 q9_3
  have hbb : (BB != BB) = false := by simp
  go_wp2_with fail
  rw [← Hw6.out]
  refine (ltn_eq PG NG _ _ _ _ XS YS _ (Ints.of_own (S11.out.sx.ls _ (.tail _ (.head _))).1 (few50 HXM.out)) (Ints.of_own (S11.out.sx.ls _ (.head _)).1 (few50 HXM.out)) (Ints.of_own (S11.out.sx.ls _ (.tail _ (.head _))).2.1 (few5 HYM.out)) (Ints.of_own (S11.out.sx.ls _ (.head _)).2.1 (few5 HYM.out))).mono ?_
  rintro e w7 ⟨rfl, hb⟩
  have S12 := Lib.hid (S11.out.on hb)
  clear S11
  clear hb
  clear q7_0 q7_1 q7_2 q7_3 q9_0 q9_1 q9_2 q9_3
  cases BB
  · have hp0 := HF0.out rfl
    subst hp0
    have q7_0 := (S12.out.sx.bx _ (.tail _ (.head _))).cell 0
    have q7_1 := (S12.out.sx.bx _ (.tail _ (.head _))).cell 1
    have q7_2 := (S12.out.sx.bx _ (.tail _ (.head _))).cell 2
    have q7_3 := (S12.out.sx.bx _ (.tail _ (.head _))).cell 3
    simp at q7_0 q7_1 q7_2 q7_3
    go_wp2_with fail
    refine (alive_any _ (G0.out.on S12.out.sx.be)).mono ?_
    rintro e w8 ⟨rfl, rfl⟩
    go_wp2
    go_ret
    exact ⟨rfl, S12.out.sx.be⟩
  · have HF := Lib.hid (HFF.out rfl)
    have HCP : Hid (capB (.slice B7 YS.length D7)) := Lib.hid (S12.out.sx.ls _ (.tail _ (.head _))).2.1.capped
    obtain ⟨XT, hXT⟩ : ∃ r, btw p g q hs = r := ⟨_, rfl⟩
    have HXT := Lib.hid hXT
    have HEA := Lib.hid HF.out.each
    have HTH := Lib.hid HF.out.th
    have HFW := Lib.hid (btw_few (q := q) (g := g) (h := hs) HP5.out)
    rw [hXT] at HEA HTH HFW
    clear hXT
    have q3_0 := (S12.out.sx.bx _ (.tail _ (.tail _ (.tail _ (.head _))))).cell 0
    have q3_1 := (S12.out.sx.bx _ (.tail _ (.tail _ (.tail _ (.head _))))).cell 1
    have q4_0 := (S12.out.sx.bx _ (.tail _ (.tail _ (.head _)))).cell 0
    have q4_1 := (S12.out.sx.bx _ (.tail _ (.tail _ (.head _)))).cell 1
    simp at q3_0 q3_1 q4_0 q4_1
    go_wp2_with fail
    refine (sbt_any p q _ _ g hs _ (S12.out.li _ (.head _)).ints (S12.out.li _ (.tail _ (.head _))).ints IP.out IQ.out (S12.out.li _ (.head _)).num (S12.out.li _ (.tail _ (.head _))).num).mono ?_
    rintro e w9 ⟨bv, us, rfl, oo, hb⟩
    rw [HXT.out] at oo
    clear q3_0 q3_1 q4_0 q4_1
    have S13 := Lib.hid (S12.out.on hb)
    clear S12
    obtain ⟨ba, bc, e9⟩ := oo.form
    subst e9
    have S14 := Lib.hid (S13.out.add (Hl.mk3 oo (Nat.le_refl _)))
    clear S13
    clear hb oo
    obtain ⟨n, hn⟩ : ∃ n, XT.length = n := ⟨_, rfl⟩
    have HN := Lib.hid hn
    have HAT := Lib.hid (show ∀ j, j < n → ∃ gb, ba = some ⟨gb, 0, none⟩ ∧ ∀ w', Hid (Lq w [(.slice ga g.length gc, g), (.slice ha hs.length hc, hs), (.slice fa fs.length fc, fs)] [(w5.heap.size, [.int .i64 PG, .slice A9 XS.length C9, .int .i64 NG, .slice B9 YS.length D9]), (w3.heap.size, [.int .i64 PG, .slice A7 XS.length C7, .int .i64 NG, .slice B7 YS.length D7]), ((w1.heap.size + 1), [.int .i64 q, .slice ha hs.length hc]), (w1.heap.size, [.int .i64 p, .slice ga g.length gc])] [.s w7.heap.size w9.heap.size (.slice ba XT.length bc) us XT, .p w4.heap.size w5.heap.size (.slice A9 XS.length C9) (.slice B9 YS.length D9) XS YS, .p w2.heap.size w3.heap.size (.slice A7 XS.length C7) (.slice B7 YS.length D7) XS YS] w') → w'.cell? ⟨gb, j, none⟩ = some (val us j) ∧ Ints w' (val us j) (row XT j) ∧ capB (val us j) from fun j hj => by
      obtain ⟨a9, c9, e9, h9⟩ := outer_cell (S14.out.sx.ls _ (.head _)).1.outer
      rw [(S14.out.sx.ls _ (.head _)).1.len] at e9
      cases e9
      obtain ⟨gb, e8, _, _⟩ := h9 j (by rw [(S14.out.sx.ls _ (.head _)).1.len, hn]; exact hj)
      refine ⟨gb, e8, fun w' hw' => ?_⟩
      have o9 := (hw'.out.sx.ls _ (.head _)).1
      obtain ⟨a7, c7, e7, h7⟩ := outer_cell o9.outer
      rw [o9.len] at e7
      cases e7
      obtain ⟨gb', e6, _, e5⟩ := h7 j (by rw [o9.len, hn]; exact hj)
      rw [e8] at e6
      cases e6
      have r9 := o9.rows j (by rw [o9.len, hn]; exact hj)
      exact ⟨e5, Ints.of_own r9 (few5 (HFW.out _ (row_mem (by rw [hn]; exact hj)))), r9.capped⟩)
    have SL : Hid (Lq w [(.slice ga g.length gc, g), (.slice ha hs.length hc, hs), (.slice fa fs.length fc, fs)] [(w5.heap.size, [.int .i64 PG, .slice A9 XS.length C9, .int .i64 NG, .slice B9 YS.length D9]), (w3.heap.size, [.int .i64 PG, .slice A7 XS.length C7, .int .i64 NG, .slice B7 YS.length D7]), ((w1.heap.size + 1), [.int .i64 q, .slice ha hs.length hc]), (w1.heap.size, [.int .i64 p, .slice ga g.length gc])] [.s w7.heap.size w9.heap.size (.slice ba XT.length bc) us XT, .p w4.heap.size w5.heap.size (.slice A9 XS.length C9) (.slice B9 YS.length D9) XS YS, .p w2.heap.size w3.heap.size (.slice A7 XS.length C7) (.slice B7 YS.length D7) XS YS] w9) := S14
    clear S14
    rw [hn]
    clear hn
    go_wp2
    go_loopw [12] (fun i wr => ∃ j : Nat, j ≤ n ∧ j ≤ 6 ∧ i = .int .i64 j ∧ Hid (Lq w [(.slice ga g.length gc, g), (.slice ha hs.length hc, hs), (.slice fa fs.length fc, fs)] [(w5.heap.size, [.int .i64 PG, .slice A9 XS.length C9, .int .i64 NG, .slice B9 YS.length D9]), (w3.heap.size, [.int .i64 PG, .slice A7 XS.length C7, .int .i64 NG, .slice B7 YS.length D7]), ((w1.heap.size + 1), [.int .i64 q, .slice ha hs.length hc]), (w1.heap.size, [.int .i64 p, .slice ga g.length gc])] [.s w7.heap.size w9.heap.size (.slice ba XT.length bc) us XT, .p w4.heap.size w5.heap.size (.slice A9 XS.length C9) (.slice B9 YS.length D9) XS YS, .p w2.heap.size w3.heap.size (.slice A7 XS.length C7) (.slice B7 YS.length D7) XS YS] wr)) (fun i _ => n - (intOf i).toNat)
    case atStart => exact ⟨0, by omega, by omega, rfl, SL⟩
    case round =>
      clear SL
      obtain ⟨j, hj, hj6, rfl, SI⟩ := hrel
      obtain ⟨wo, rfl⟩ : ∃ wo : World, wo = wr := ⟨_, rfl⟩
      by_cases hend : j < n ∧ j < 6
      · obtain ⟨hjn, hj66⟩ := hend
        have hj1 : (j : Int) < (n : Int) := by omega
        have hj2 : (j : Int) < 6 := by omega
        obtain ⟨gb, rfl, hat⟩ := HAT.out j hjn
        have HA := Lib.hid hat
        have HM := Lib.hid (row_mem (xss := XT) (j := j) (by rw [HN.out]; exact hjn))
        clear hat
        by_cases ha1 : ask = 1
        · have hd1 : (ask == 1) = true := by simp [ha1]
          have HA1 := Lib.hid ha1
          clear ha1
          have q0 := (HA.out _ SI).1
          have hrow := HA.out _ SI
          go_wp2_with fail
          refine (ithn_any _ _ (row XT j) fs _ hrow.2.1 (SI.out.li _ (.tail _ (.tail _ (.head _)))).ints hrow.2.2 (SI.out.li _ (.tail _ (.tail _ (.head _)))).cap).mono ?_
          rintro e w10 ⟨tv, rfl, oo, hb⟩
          rw [HTH.out _ HM.out] at oo
          clear q0 hrow
          have S15 := Lib.hid (SI.out.on hb)
          clear SI
          have HTL := Lib.hid (show (thn (row XT j) fs).length ≤ maxLen by rw [thn_len]; exact few5 (HFW.out _ HM.out))
          have OT := Lib.hid oo
          clear hb oo
          have HOT := Lib.hid (show ∀ w', Below w10.heap.size w10 w' → Own w' wo.heap.size tv (thn (row XT j) fs) from fun w' hb => own_below OT.out hb)
          have HOF := Lib.hid (HEA.out _ HM.out (thn (row XT j) fs) (by rw [if_pos HA1.out]))
          go_wp2_with fail
          apply wp_region_H (Z := List Cp × Option (Nat × List Value)) (S := fun k => k == 8 || k == 12 || k == 13) (C := fun z w' => Hid (Zx w10 z.1 z.2 w')) [0, 1, 2, 3, 4, 5, 6, 7] ([], none)
          · kernel_rfl
          · kernel_rfl
          · kernel_rfl
          · exact ⟨rfl, rfl, rfl, rfl, rfl, rfl, rfl, rfl, trivial⟩
          · rfl
          · decide
          · exact Lib.hid (Zx.start (Below.refl _ _).drew)
          · intro z
            dsimp only [pickL, nthO]
            go_big_quiet_want
            go_big_quiet_op
            refine ⟨.agg #[.int .i64 p, .slice ga g.length gc], fun w' hw' => ?_, ?_⟩
            · have q9 := (S15.out.on hw'.out.be).sx.bx _ (.tail _ (.tail _ (.tail _ (.head _))))
              have q0 := q9.cell 0
              have q1 := q9.cell 1
              simp at q0 q1
              simp [go_sem, q0, q1]
            go_big_quiet_on
            go_big_quiet_want
            go_big_quiet_op
            refine ⟨.agg #[.int .i64 q, .slice ha hs.length hc], fun w' hw' => ?_, ?_⟩
            · have q9 := (S15.out.on hw'.out.be).sx.bx _ (.tail _ (.tail _ (.head _)))
              have q0 := q9.cell 0
              have q1 := q9.cell 1
              simp at q0 q1
              simp [go_sem, q0, q1]
            go_big_quiet_on
            go_big_quiet_want; go_big_quiet_op; first | go_big_quiet_on | (refine ⟨_, fun _ _ => rfl, ?_⟩; go_big_quiet_on)
            go_big_quiet_want; go_big_quiet_op; first | go_big_quiet_on | (refine ⟨_, fun _ _ => rfl, ?_⟩; go_big_quiet_on)
            go_big_quiet_want; go_big_quiet_op; first | go_big_quiet_on | (refine ⟨_, fun _ _ => rfl, ?_⟩; go_big_quiet_on)
            go_big_quiet_want
            go_big_quiet_op
            refine ⟨val us j, fun w' hw' => ?_, ?_⟩
            · have q0 := (HA.out w' (Lib.hid (S15.out.on hw'.out.be))).1
              simp [go_sem, q0]
            go_big_quiet_on
            go_big_quiet_want; go_big_quiet_op; first | go_big_quiet_on | (refine ⟨_, fun _ _ => rfl, ?_⟩; go_big_quiet_on)
            go_big_quiet_want; go_big_quiet_op; first | go_big_quiet_on | (refine ⟨_, fun _ _ => rfl, ?_⟩; go_big_quiet_on)
            exact wpQuiet_nil rfl
          · skip
            refine wpAnyH_key (D := Option Addr × Nat × Option Addr × Nat × Nat × Nat × Nat) (fun d => ([.p d.2.2.2.2.1 d.2.2.2.2.2.1 (.slice d.1 XS.length d.2.1) (.slice d.2.2.1 YS.length d.2.2.2.1) XS YS], some (d.2.2.2.2.2.2, [.int .i64 PG, .slice d.1 XS.length d.2.1, .int .i64 NG, .slice d.2.2.1 YS.length d.2.2.2.1]))) (fun d a => ((((((a.put (some 91) (.tuple #[.agg #[.int .i64 PG, .slice d.1 XS.length d.2.1, .int .i64 NG, .slice d.2.2.1 YS.length d.2.2.2.1], .bool true])).put (some 82) (.tuple #[.agg #[.int .i64 PG, .slice d.1 XS.length d.2.1, .int .i64 NG, .slice d.2.2.1 YS.length d.2.2.2.1], .bool true])).put (some 92) (.agg #[.int .i64 PG, .slice d.1 XS.length d.2.1, .int .i64 NG, .slice d.2.2.1 YS.length d.2.2.2.1])).put (some 93) (.bool true)).put (some 14) (.pointer (some ⟨d.2.2.2.2.2.2, 0, none⟩))).put (some 15) (.bool true))) ?_ ?_
            · skip
              refine wpAnyH_two 8 12 (by kernel_rfl) ?_ ?_
              · skip
                refine hOp_call 42 #[.agg #[.int .i64 p, .slice ga g.length gc], .agg #[.int .i64 q, .slice ha hs.length hc], val us j, tv, .int .i64 ask] (d := some 91) rfl rfl rfl (by kernel_rfl) (fun _ => by kernel_rfl) fun wc hc => ?_
                have hrow := HA.out wc (Lib.hid (S15.out.on hc.out.be))
                refine (((itof_any p q ask _ _ _ _ g hs (row XT j) (thn (row XT j) fs) wc ((Lib.hid (S15.out.on hc.out.be)).out.li _ (.head _)).ints ((Lib.hid (S15.out.on hc.out.be)).out.li _ (.tail _ (.head _))).ints hrow.2.1 (Ints.of_own (HOT.out _ hc.out.be) HTL.out) hrow.2.2 OT.out.capped ((Lib.hid (S15.out.on hc.out.be)).out.li _ (.head _)).num ((Lib.hid (S15.out.on hc.out.be)).out.li _ (.tail _ (.head _))).num).mono fun _ _ h => h.x)).mono ?_
                rintro e wd ⟨v9, u9, rfl, oo, o2, oa, hb⟩
                rw [HOF.out.2.1] at oo
                rw [HOF.out.2.2.2.1] at o2
                rw [HOF.out.1, HOF.out.2.2.1, HOF.out.2.2.2.2]
                obtain ⟨An, Cn, ef⟩ := Own.form oo
                obtain ⟨Bn, Dn, eg⟩ := Own.form o2
                subst ef eg
                refine ⟨_, rfl, ([.p wc.heap.size wd.heap.size (.slice An XS.length Cn) (.slice Bn YS.length Dn) XS YS], none), Lib.hid (hc.out.add hb (Hl.mk2 oo o2 oa) (Nat.le_refl _)), ?_⟩
                clear hc oo o2 oa hb hrow
                refine wpAnyH_take (i := 9) (d := some 82) (.tuple #[.agg #[.int .i64 PG, .slice An XS.length Cn, .int .i64 NG, .slice Bn YS.length Dn], .bool true]) rfl (by kernel_rfl) rfl rfl (by kernel_rfl) (by kernel_rfl) (by kernel_rfl) (fun _ => by kernel_rfl) ?_
                refine wpAnyH_take (i := 10) (d := some 92) (.agg #[.int .i64 PG, .slice An XS.length Cn, .int .i64 NG, .slice Bn YS.length Dn]) rfl (by kernel_rfl) rfl rfl (by kernel_rfl) (by kernel_rfl) (by kernel_rfl) (fun _ => by kernel_rfl) ?_
                refine wpAnyH_take (i := 11) (d := some 93) (.bool true) rfl (by kernel_rfl) rfl rfl (by kernel_rfl) (by kernel_rfl) (by kernel_rfl) (fun _ => by kernel_rfl) ?_
                refine wpAnyH_special (i := 12) (d := some 14) rfl (by kernel_rfl) rfl rfl (by kernel_rfl) fun wN hc => ⟨.pointer (some ⟨wN.heap.size, 0, none⟩), wN.alloc (.cells #[.int .i64 0, .slice none 0 0, .int .i64 0, .slice none 0 0] 50), ([.p wc.heap.size wd.heap.size (.slice An XS.length Cn) (.slice Bn YS.length Dn) XS YS], some (wN.heap.size, [.int .i64 0, .slice none 0 0, .int .i64 0, .slice none 0 0])), .inl (by kernel_rfl), Lib.hid (hc.out.made [.int .i64 0, .slice none 0 0, .int .i64 0, .slice none 0 0] _), ?_⟩
                clear hc
                refine wpAnyH_special (i := 13) (d := none) rfl (by kernel_rfl) rfl rfl (by kernel_rfl) fun we he => ?_
                have kb := (he.out.bx _ _ rfl).2.1
                have k0 := kb.cell 0; have f0 := kb.frozen 0
                have k1 := kb.cell 1; have f1 := kb.frozen 1
                have k2 := kb.cell 2; have f2 := kb.frozen 2
                have k3 := kb.cell 3; have f3 := kb.frozen 3
                simp at k0 k1 k2 k3
                refine ⟨undef, (((we.setCell ⟨wN.heap.size, 0, none⟩ (.int .i64 PG)).setCell ⟨wN.heap.size, 1, none⟩ (.slice An XS.length Cn)).setCell ⟨wN.heap.size, 2, none⟩ (.int .i64 NG)).setCell ⟨wN.heap.size, 3, none⟩ (.slice Bn YS.length Dn), ([.p wc.heap.size wd.heap.size (.slice An XS.length Cn) (.slice Bn YS.length Dn) XS YS], some (wN.heap.size, [.int .i64 PG, .slice An XS.length Cn, .int .i64 NG, .slice Bn YS.length Dn])), .inr ⟨by simp [go_sem, Act.put, k0, k1, k2, k3, f0, f1, f2, f3], rfl⟩, Lib.hid ((((he.out.put 0 _).put 1 _).put 2 _).put 3 _), ?_⟩
                clear he kb k0 k1 k2 k3 f0 f1 f2 f3
                refine wpAnyH_assign (i := 14) (d := some 15) _ rfl (by kernel_rfl) rfl rfl (by kernel_rfl) rfl ?_
                exact ⟨by kernel_rfl, ⟨An, Cn, Bn, Dn, wc.heap.size, wd.heap.size, wN.heap.size⟩, rfl, by kernel_rfl⟩
              · skip
                refine hOp_special (d := some 14) rfl rfl rfl (by kernel_rfl) fun wN hc => ⟨.pointer (some ⟨wN.heap.size, 0, none⟩), wN.alloc (.cells #[.int .i64 0, .slice none 0 0, .int .i64 0, .slice none 0 0] 50), ([], some (wN.heap.size, [.int .i64 0, .slice none 0 0, .int .i64 0, .slice none 0 0])), by kernel_rfl, Lib.hid (hc.out.made [.int .i64 0, .slice none 0 0, .int .i64 0, .slice none 0 0] _), ?_⟩
                clear hc
                refine wpAnyH_call (i := 8) (d := some 91) 42 #[.agg #[.int .i64 p, .slice ga g.length gc], .agg #[.int .i64 q, .slice ha hs.length hc], val us j, tv, .int .i64 ask] rfl (by kernel_rfl) rfl rfl (by kernel_rfl) (fun _ => by kernel_rfl) fun wc hc => ?_
                have hrow := HA.out wc (Lib.hid (S15.out.on hc.out.be))
                refine (((itof_any p q ask _ _ _ _ g hs (row XT j) (thn (row XT j) fs) wc ((Lib.hid (S15.out.on hc.out.be)).out.li _ (.head _)).ints ((Lib.hid (S15.out.on hc.out.be)).out.li _ (.tail _ (.head _))).ints hrow.2.1 (Ints.of_own (HOT.out _ hc.out.be) HTL.out) hrow.2.2 OT.out.capped ((Lib.hid (S15.out.on hc.out.be)).out.li _ (.head _)).num ((Lib.hid (S15.out.on hc.out.be)).out.li _ (.tail _ (.head _))).num).mono fun _ _ h => h.x)).mono ?_
                rintro e wd ⟨v9, u9, rfl, oo, o2, oa, hb⟩
                rw [HOF.out.2.1] at oo
                rw [HOF.out.2.2.2.1] at o2
                rw [HOF.out.1, HOF.out.2.2.1, HOF.out.2.2.2.2]
                obtain ⟨An, Cn, ef⟩ := Own.form oo
                obtain ⟨Bn, Dn, eg⟩ := Own.form o2
                subst ef eg
                refine ⟨_, rfl, ([.p wc.heap.size wd.heap.size (.slice An XS.length Cn) (.slice Bn YS.length Dn) XS YS], some (wN.heap.size, [.int .i64 0, .slice none 0 0, .int .i64 0, .slice none 0 0])), Lib.hid (hc.out.add hb (Hl.mk2 oo o2 oa) (Nat.le_refl _)), ?_⟩
                clear hc oo o2 oa hb hrow
                refine wpAnyH_take (i := 9) (d := some 82) (.tuple #[.agg #[.int .i64 PG, .slice An XS.length Cn, .int .i64 NG, .slice Bn YS.length Dn], .bool true]) rfl (by kernel_rfl) rfl rfl (by kernel_rfl) (by kernel_rfl) (by kernel_rfl) (fun _ => by kernel_rfl) ?_
                refine wpAnyH_take (i := 10) (d := some 92) (.agg #[.int .i64 PG, .slice An XS.length Cn, .int .i64 NG, .slice Bn YS.length Dn]) rfl (by kernel_rfl) rfl rfl (by kernel_rfl) (by kernel_rfl) (by kernel_rfl) (fun _ => by kernel_rfl) ?_
                refine wpAnyH_take (i := 11) (d := some 93) (.bool true) rfl (by kernel_rfl) rfl rfl (by kernel_rfl) (by kernel_rfl) (by kernel_rfl) (fun _ => by kernel_rfl) ?_
                refine wpAnyH_special (i := 13) (d := none) rfl (by kernel_rfl) rfl rfl (by kernel_rfl) fun we he => ?_
                have kb := (he.out.bx _ _ rfl).2.1
                have k0 := kb.cell 0; have f0 := kb.frozen 0
                have k1 := kb.cell 1; have f1 := kb.frozen 1
                have k2 := kb.cell 2; have f2 := kb.frozen 2
                have k3 := kb.cell 3; have f3 := kb.frozen 3
                simp at k0 k1 k2 k3
                refine ⟨undef, (((we.setCell ⟨wN.heap.size, 0, none⟩ (.int .i64 PG)).setCell ⟨wN.heap.size, 1, none⟩ (.slice An XS.length Cn)).setCell ⟨wN.heap.size, 2, none⟩ (.int .i64 NG)).setCell ⟨wN.heap.size, 3, none⟩ (.slice Bn YS.length Dn), ([.p wc.heap.size wd.heap.size (.slice An XS.length Cn) (.slice Bn YS.length Dn) XS YS], some (wN.heap.size, [.int .i64 PG, .slice An XS.length Cn, .int .i64 NG, .slice Bn YS.length Dn])), .inr ⟨by simp [go_sem, Act.put, k0, k1, k2, k3, f0, f1, f2, f3], rfl⟩, Lib.hid ((((he.out.put 0 _).put 1 _).put 2 _).put 3 _), ?_⟩
                clear he kb k0 k1 k2 k3 f0 f1 f2 f3
                refine wpAnyH_assign (i := 14) (d := some 15) _ rfl (by kernel_rfl) rfl rfl (by kernel_rfl) rfl ?_
                exact ⟨by kernel_rfl, ⟨An, Cn, Bn, Dn, wc.heap.size, wd.heap.size, wN.heap.size⟩, rfl, by kernel_rfl⟩
            · skip
              rintro ⟨An, Cn, Bn, Dn, lo, hi, N14⟩ wz9 hz
              dsimp only at hz ⊢
              simp only [Act.put, List.setIfInBounds_toArray, List.set_cons_zero, List.set_cons_succ]
              have k9 := S15.out.on hz.out.be
              have b9 := (hz.out.bx _ _ rfl).2.1
              have l9 := hz.out.ls _ (.head _)
              have BX14 := Lib.hid b9
              have LX14 := Lib.hid l9
              have S16 := Lib.hid (k9)
              clear S15
              clear hz k9 b9 l9
              have q7_0 := (S16.out.sx.bx _ (.tail _ (.head _))).cell 0
              have q7_1 := (S16.out.sx.bx _ (.tail _ (.head _))).cell 1
              have q7_2 := (S16.out.sx.bx _ (.tail _ (.head _))).cell 2
              have q7_3 := (S16.out.sx.bx _ (.tail _ (.head _))).cell 3
              simp at q7_0 q7_1 q7_2 q7_3
              have r0 := BX14.out.cell 0; have r1 := BX14.out.cell 1; have r2 := BX14.out.cell 2; have r3 := BX14.out.cell 3
              simp at r0 r1 r2 r3
              go_wp2_with fail
              refine (ltn_eq PG NG _ _ _ _ XS YS _ (Ints.of_own LX14.out.1 (few50 HXM.out)) (Ints.of_own (S16.out.sx.ls _ (.tail _ (.tail _ (.head _)))).1 (few50 HXM.out)) (Ints.of_own LX14.out.2.1 (few5 HYM.out)) (Ints.of_own (S16.out.sx.ls _ (.tail _ (.tail _ (.head _)))).2.1 (few5 HYM.out))).mono ?_
              rintro e w11 ⟨rfl, hb⟩
              have S17 := Lib.hid (S16.out.on hb)
              clear S16
              clear hb
              clear q7_0 q7_1 q7_2 q7_3
              clear r0 r1 r2 r3
              go_wp2
              go_roundw
              case rel => exact ⟨j + 1, by omega, by omega, by go_num, S17⟩
              case measure => simp [intOf]; omega
        · have hd1 : (ask == 1) = false := by simp [ha1]
          have HA1 := Lib.hid ha1
          clear ha1
          have HOF := Lib.hid (HEA.out _ HM.out fs (by rw [if_neg HA1.out]))
          go_wp2_with fail
          apply wp_region_H (Z := List Cp × Option (Nat × List Value)) (S := fun k => k == 8 || k == 12 || k == 13) (C := fun z w' => Hid (Zx wo z.1 z.2 w')) [0, 1, 2, 3, 4, 5, 6, 7] ([], none)
          · kernel_rfl
          · kernel_rfl
          · kernel_rfl
          · exact ⟨rfl, rfl, rfl, rfl, rfl, rfl, rfl, rfl, trivial⟩
          · rfl
          · decide
          · exact Lib.hid (Zx.start (Below.refl _ _).drew)
          · intro z
            dsimp only [pickL, nthO]
            go_big_quiet_want
            go_big_quiet_op
            refine ⟨.agg #[.int .i64 p, .slice ga g.length gc], fun w' hw' => ?_, ?_⟩
            · have q9 := (SI.out.on hw'.out.be).sx.bx _ (.tail _ (.tail _ (.tail _ (.head _))))
              have q0 := q9.cell 0
              have q1 := q9.cell 1
              simp at q0 q1
              simp [go_sem, q0, q1]
            go_big_quiet_on
            go_big_quiet_want
            go_big_quiet_op
            refine ⟨.agg #[.int .i64 q, .slice ha hs.length hc], fun w' hw' => ?_, ?_⟩
            · have q9 := (SI.out.on hw'.out.be).sx.bx _ (.tail _ (.tail _ (.head _)))
              have q0 := q9.cell 0
              have q1 := q9.cell 1
              simp at q0 q1
              simp [go_sem, q0, q1]
            go_big_quiet_on
            go_big_quiet_want; go_big_quiet_op; first | go_big_quiet_on | (refine ⟨_, fun _ _ => rfl, ?_⟩; go_big_quiet_on)
            go_big_quiet_want; go_big_quiet_op; first | go_big_quiet_on | (refine ⟨_, fun _ _ => rfl, ?_⟩; go_big_quiet_on)
            go_big_quiet_want; go_big_quiet_op; first | go_big_quiet_on | (refine ⟨_, fun _ _ => rfl, ?_⟩; go_big_quiet_on)
            go_big_quiet_want
            go_big_quiet_op
            refine ⟨val us j, fun w' hw' => ?_, ?_⟩
            · have q0 := (HA.out w' (Lib.hid (SI.out.on hw'.out.be))).1
              simp [go_sem, q0]
            go_big_quiet_on
            go_big_quiet_want; go_big_quiet_op; first | go_big_quiet_on | (refine ⟨_, fun _ _ => rfl, ?_⟩; go_big_quiet_on)
            go_big_quiet_want; go_big_quiet_op; first | go_big_quiet_on | (refine ⟨_, fun _ _ => rfl, ?_⟩; go_big_quiet_on)
            exact wpQuiet_nil rfl
          · skip
            refine wpAnyH_key (D := Option Addr × Nat × Option Addr × Nat × Nat × Nat × Nat) (fun d => ([.p d.2.2.2.2.1 d.2.2.2.2.2.1 (.slice d.1 XS.length d.2.1) (.slice d.2.2.1 YS.length d.2.2.2.1) XS YS], some (d.2.2.2.2.2.2, [.int .i64 PG, .slice d.1 XS.length d.2.1, .int .i64 NG, .slice d.2.2.1 YS.length d.2.2.2.1]))) (fun d a => ((((((a.put (some 91) (.tuple #[.agg #[.int .i64 PG, .slice d.1 XS.length d.2.1, .int .i64 NG, .slice d.2.2.1 YS.length d.2.2.2.1], .bool true])).put (some 82) (.tuple #[.agg #[.int .i64 PG, .slice d.1 XS.length d.2.1, .int .i64 NG, .slice d.2.2.1 YS.length d.2.2.2.1], .bool true])).put (some 92) (.agg #[.int .i64 PG, .slice d.1 XS.length d.2.1, .int .i64 NG, .slice d.2.2.1 YS.length d.2.2.2.1])).put (some 93) (.bool true)).put (some 14) (.pointer (some ⟨d.2.2.2.2.2.2, 0, none⟩))).put (some 15) (.bool true))) ?_ ?_
            · skip
              refine wpAnyH_two 8 12 (by kernel_rfl) ?_ ?_
              · skip
                refine hOp_call 42 #[.agg #[.int .i64 p, .slice ga g.length gc], .agg #[.int .i64 q, .slice ha hs.length hc], val us j, .slice fa fs.length fc, .int .i64 ask] (d := some 91) rfl rfl rfl (by kernel_rfl) (fun _ => by kernel_rfl) fun wc hc => ?_
                have hrow := HA.out wc (Lib.hid (SI.out.on hc.out.be))
                refine (((itof_any p q ask _ _ _ _ g hs (row XT j) fs wc ((Lib.hid (SI.out.on hc.out.be)).out.li _ (.head _)).ints ((Lib.hid (SI.out.on hc.out.be)).out.li _ (.tail _ (.head _))).ints hrow.2.1 ((Lib.hid (SI.out.on hc.out.be)).out.li _ (.tail _ (.tail _ (.head _)))).ints hrow.2.2 ((Lib.hid (SI.out.on hc.out.be)).out.li _ (.tail _ (.tail _ (.head _)))).cap ((Lib.hid (SI.out.on hc.out.be)).out.li _ (.head _)).num ((Lib.hid (SI.out.on hc.out.be)).out.li _ (.tail _ (.head _))).num).mono fun _ _ h => h.x)).mono ?_
                rintro e wd ⟨v9, u9, rfl, oo, o2, oa, hb⟩
                rw [HOF.out.2.1] at oo
                rw [HOF.out.2.2.2.1] at o2
                rw [HOF.out.1, HOF.out.2.2.1, HOF.out.2.2.2.2]
                obtain ⟨An, Cn, ef⟩ := Own.form oo
                obtain ⟨Bn, Dn, eg⟩ := Own.form o2
                subst ef eg
                refine ⟨_, rfl, ([.p wc.heap.size wd.heap.size (.slice An XS.length Cn) (.slice Bn YS.length Dn) XS YS], none), Lib.hid (hc.out.add hb (Hl.mk2 oo o2 oa) (Nat.le_refl _)), ?_⟩
                clear hc oo o2 oa hb hrow
                refine wpAnyH_take (i := 9) (d := some 82) (.tuple #[.agg #[.int .i64 PG, .slice An XS.length Cn, .int .i64 NG, .slice Bn YS.length Dn], .bool true]) rfl (by kernel_rfl) rfl rfl (by kernel_rfl) (by kernel_rfl) (by kernel_rfl) (fun _ => by kernel_rfl) ?_
                refine wpAnyH_take (i := 10) (d := some 92) (.agg #[.int .i64 PG, .slice An XS.length Cn, .int .i64 NG, .slice Bn YS.length Dn]) rfl (by kernel_rfl) rfl rfl (by kernel_rfl) (by kernel_rfl) (by kernel_rfl) (fun _ => by kernel_rfl) ?_
                refine wpAnyH_take (i := 11) (d := some 93) (.bool true) rfl (by kernel_rfl) rfl rfl (by kernel_rfl) (by kernel_rfl) (by kernel_rfl) (fun _ => by kernel_rfl) ?_
                refine wpAnyH_special (i := 12) (d := some 14) rfl (by kernel_rfl) rfl rfl (by kernel_rfl) fun wN hc => ⟨.pointer (some ⟨wN.heap.size, 0, none⟩), wN.alloc (.cells #[.int .i64 0, .slice none 0 0, .int .i64 0, .slice none 0 0] 50), ([.p wc.heap.size wd.heap.size (.slice An XS.length Cn) (.slice Bn YS.length Dn) XS YS], some (wN.heap.size, [.int .i64 0, .slice none 0 0, .int .i64 0, .slice none 0 0])), .inl (by kernel_rfl), Lib.hid (hc.out.made [.int .i64 0, .slice none 0 0, .int .i64 0, .slice none 0 0] _), ?_⟩
                clear hc
                refine wpAnyH_special (i := 13) (d := none) rfl (by kernel_rfl) rfl rfl (by kernel_rfl) fun we he => ?_
                have kb := (he.out.bx _ _ rfl).2.1
                have k0 := kb.cell 0; have f0 := kb.frozen 0
                have k1 := kb.cell 1; have f1 := kb.frozen 1
                have k2 := kb.cell 2; have f2 := kb.frozen 2
                have k3 := kb.cell 3; have f3 := kb.frozen 3
                simp at k0 k1 k2 k3
                refine ⟨undef, (((we.setCell ⟨wN.heap.size, 0, none⟩ (.int .i64 PG)).setCell ⟨wN.heap.size, 1, none⟩ (.slice An XS.length Cn)).setCell ⟨wN.heap.size, 2, none⟩ (.int .i64 NG)).setCell ⟨wN.heap.size, 3, none⟩ (.slice Bn YS.length Dn), ([.p wc.heap.size wd.heap.size (.slice An XS.length Cn) (.slice Bn YS.length Dn) XS YS], some (wN.heap.size, [.int .i64 PG, .slice An XS.length Cn, .int .i64 NG, .slice Bn YS.length Dn])), .inr ⟨by simp [go_sem, Act.put, k0, k1, k2, k3, f0, f1, f2, f3], rfl⟩, Lib.hid ((((he.out.put 0 _).put 1 _).put 2 _).put 3 _), ?_⟩
                clear he kb k0 k1 k2 k3 f0 f1 f2 f3
                refine wpAnyH_assign (i := 14) (d := some 15) _ rfl (by kernel_rfl) rfl rfl (by kernel_rfl) rfl ?_
                exact ⟨by kernel_rfl, ⟨An, Cn, Bn, Dn, wc.heap.size, wd.heap.size, wN.heap.size⟩, rfl, by kernel_rfl⟩
              · skip
                refine hOp_special (d := some 14) rfl rfl rfl (by kernel_rfl) fun wN hc => ⟨.pointer (some ⟨wN.heap.size, 0, none⟩), wN.alloc (.cells #[.int .i64 0, .slice none 0 0, .int .i64 0, .slice none 0 0] 50), ([], some (wN.heap.size, [.int .i64 0, .slice none 0 0, .int .i64 0, .slice none 0 0])), by kernel_rfl, Lib.hid (hc.out.made [.int .i64 0, .slice none 0 0, .int .i64 0, .slice none 0 0] _), ?_⟩
                clear hc
                refine wpAnyH_call (i := 8) (d := some 91) 42 #[.agg #[.int .i64 p, .slice ga g.length gc], .agg #[.int .i64 q, .slice ha hs.length hc], val us j, .slice fa fs.length fc, .int .i64 ask] rfl (by kernel_rfl) rfl rfl (by kernel_rfl) (fun _ => by kernel_rfl) fun wc hc => ?_
                have hrow := HA.out wc (Lib.hid (SI.out.on hc.out.be))
                refine (((itof_any p q ask _ _ _ _ g hs (row XT j) fs wc ((Lib.hid (SI.out.on hc.out.be)).out.li _ (.head _)).ints ((Lib.hid (SI.out.on hc.out.be)).out.li _ (.tail _ (.head _))).ints hrow.2.1 ((Lib.hid (SI.out.on hc.out.be)).out.li _ (.tail _ (.tail _ (.head _)))).ints hrow.2.2 ((Lib.hid (SI.out.on hc.out.be)).out.li _ (.tail _ (.tail _ (.head _)))).cap ((Lib.hid (SI.out.on hc.out.be)).out.li _ (.head _)).num ((Lib.hid (SI.out.on hc.out.be)).out.li _ (.tail _ (.head _))).num).mono fun _ _ h => h.x)).mono ?_
                rintro e wd ⟨v9, u9, rfl, oo, o2, oa, hb⟩
                rw [HOF.out.2.1] at oo
                rw [HOF.out.2.2.2.1] at o2
                rw [HOF.out.1, HOF.out.2.2.1, HOF.out.2.2.2.2]
                obtain ⟨An, Cn, ef⟩ := Own.form oo
                obtain ⟨Bn, Dn, eg⟩ := Own.form o2
                subst ef eg
                refine ⟨_, rfl, ([.p wc.heap.size wd.heap.size (.slice An XS.length Cn) (.slice Bn YS.length Dn) XS YS], some (wN.heap.size, [.int .i64 0, .slice none 0 0, .int .i64 0, .slice none 0 0])), Lib.hid (hc.out.add hb (Hl.mk2 oo o2 oa) (Nat.le_refl _)), ?_⟩
                clear hc oo o2 oa hb hrow
                refine wpAnyH_take (i := 9) (d := some 82) (.tuple #[.agg #[.int .i64 PG, .slice An XS.length Cn, .int .i64 NG, .slice Bn YS.length Dn], .bool true]) rfl (by kernel_rfl) rfl rfl (by kernel_rfl) (by kernel_rfl) (by kernel_rfl) (fun _ => by kernel_rfl) ?_
                refine wpAnyH_take (i := 10) (d := some 92) (.agg #[.int .i64 PG, .slice An XS.length Cn, .int .i64 NG, .slice Bn YS.length Dn]) rfl (by kernel_rfl) rfl rfl (by kernel_rfl) (by kernel_rfl) (by kernel_rfl) (fun _ => by kernel_rfl) ?_
                refine wpAnyH_take (i := 11) (d := some 93) (.bool true) rfl (by kernel_rfl) rfl rfl (by kernel_rfl) (by kernel_rfl) (by kernel_rfl) (fun _ => by kernel_rfl) ?_
                refine wpAnyH_special (i := 13) (d := none) rfl (by kernel_rfl) rfl rfl (by kernel_rfl) fun we he => ?_
                have kb := (he.out.bx _ _ rfl).2.1
                have k0 := kb.cell 0; have f0 := kb.frozen 0
                have k1 := kb.cell 1; have f1 := kb.frozen 1
                have k2 := kb.cell 2; have f2 := kb.frozen 2
                have k3 := kb.cell 3; have f3 := kb.frozen 3
                simp at k0 k1 k2 k3
                refine ⟨undef, (((we.setCell ⟨wN.heap.size, 0, none⟩ (.int .i64 PG)).setCell ⟨wN.heap.size, 1, none⟩ (.slice An XS.length Cn)).setCell ⟨wN.heap.size, 2, none⟩ (.int .i64 NG)).setCell ⟨wN.heap.size, 3, none⟩ (.slice Bn YS.length Dn), ([.p wc.heap.size wd.heap.size (.slice An XS.length Cn) (.slice Bn YS.length Dn) XS YS], some (wN.heap.size, [.int .i64 PG, .slice An XS.length Cn, .int .i64 NG, .slice Bn YS.length Dn])), .inr ⟨by simp [go_sem, Act.put, k0, k1, k2, k3, f0, f1, f2, f3], rfl⟩, Lib.hid ((((he.out.put 0 _).put 1 _).put 2 _).put 3 _), ?_⟩
                clear he kb k0 k1 k2 k3 f0 f1 f2 f3
                refine wpAnyH_assign (i := 14) (d := some 15) _ rfl (by kernel_rfl) rfl rfl (by kernel_rfl) rfl ?_
                exact ⟨by kernel_rfl, ⟨An, Cn, Bn, Dn, wc.heap.size, wd.heap.size, wN.heap.size⟩, rfl, by kernel_rfl⟩
            · skip
              rintro ⟨An, Cn, Bn, Dn, lo, hi, N14⟩ wz9 hz
              dsimp only at hz ⊢
              simp only [Act.put, List.setIfInBounds_toArray, List.set_cons_zero, List.set_cons_succ]
              have k9 := SI.out.on hz.out.be
              have b9 := (hz.out.bx _ _ rfl).2.1
              have l9 := hz.out.ls _ (.head _)
              have BX14 := Lib.hid b9
              have LX14 := Lib.hid l9
              have S18 := Lib.hid (k9)
              clear SI
              clear hz k9 b9 l9
              have q7_0 := (S18.out.sx.bx _ (.tail _ (.head _))).cell 0
              have q7_1 := (S18.out.sx.bx _ (.tail _ (.head _))).cell 1
              have q7_2 := (S18.out.sx.bx _ (.tail _ (.head _))).cell 2
              have q7_3 := (S18.out.sx.bx _ (.tail _ (.head _))).cell 3
              simp at q7_0 q7_1 q7_2 q7_3
              have r0 := BX14.out.cell 0; have r1 := BX14.out.cell 1; have r2 := BX14.out.cell 2; have r3 := BX14.out.cell 3
              simp at r0 r1 r2 r3
              go_wp2_with fail
              refine (ltn_eq PG NG _ _ _ _ XS YS _ (Ints.of_own LX14.out.1 (few50 HXM.out)) (Ints.of_own (S18.out.sx.ls _ (.tail _ (.tail _ (.head _)))).1 (few50 HXM.out)) (Ints.of_own LX14.out.2.1 (few5 HYM.out)) (Ints.of_own (S18.out.sx.ls _ (.tail _ (.tail _ (.head _)))).2.1 (few5 HYM.out))).mono ?_
              rintro e w12 ⟨rfl, hb⟩
              have S19 := Lib.hid (S18.out.on hb)
              clear S18
              clear hb
              clear q7_0 q7_1 q7_2 q7_3
              clear r0 r1 r2 r3
              go_wp2
              go_roundw
              case rel => exact ⟨j + 1, by omega, by omega, by go_num, S19⟩
              case measure => simp [intOf]; omega
      · by_cases hjn : j < n
        · have hj1 : (j : Int) < (n : Int) := by omega
          have hj2 : ¬ (j : Int) < 6 := by omega
          clear hend
          have q3_0 := (SI.out.sx.bx _ (.tail _ (.tail _ (.tail _ (.head _))))).cell 0
          have q3_1 := (SI.out.sx.bx _ (.tail _ (.tail _ (.tail _ (.head _))))).cell 1
          have q4_0 := (SI.out.sx.bx _ (.tail _ (.tail _ (.head _)))).cell 0
          have q4_1 := (SI.out.sx.bx _ (.tail _ (.tail _ (.head _)))).cell 1
          have q7_0 := (SI.out.sx.bx _ (.tail _ (.head _))).cell 0
          have q7_1 := (SI.out.sx.bx _ (.tail _ (.head _))).cell 1
          have q7_2 := (SI.out.sx.bx _ (.tail _ (.head _))).cell 2
          have q7_3 := (SI.out.sx.bx _ (.tail _ (.head _))).cell 3
          simp at q3_0 q3_1 q4_0 q4_1 q7_0 q7_1 q7_2 q7_3
          go_wp2_with fail
          refine (itrn_any p q PG NG _ _ _ _ g hs XS YS _ (SI.out.li _ (.head _)).ints (SI.out.li _ (.tail _ (.head _))).ints (Ints.of_own (SI.out.sx.ls _ (.tail _ (.tail _ (.head _)))).1 (few50 HXM.out)) (Ints.of_own (SI.out.sx.ls _ (.tail _ (.tail _ (.head _)))).2.1 (few5 HYM.out)) HCP.out (SI.out.li _ (.head _)).num (SI.out.li _ (.tail _ (.head _))).num).mono ?_
          rintro e w13 ⟨rfl, hb⟩
          rw [HF.out.right]
          clear q3_0 q3_1 q4_0 q4_1 q7_0 q7_1 q7_2 q7_3
          have S20 := Lib.hid (SI.out.on hb)
          clear SI
          clear hb
          go_wp2
          go_ret
          exact ⟨rfl, S20.out.sx.be⟩
        · have hj1 : ¬ (j : Int) < (n : Int) := by omega
          clear hend
          have q3_0 := (SI.out.sx.bx _ (.tail _ (.tail _ (.tail _ (.head _))))).cell 0
          have q3_1 := (SI.out.sx.bx _ (.tail _ (.tail _ (.tail _ (.head _))))).cell 1
          have q4_0 := (SI.out.sx.bx _ (.tail _ (.tail _ (.head _)))).cell 0
          have q4_1 := (SI.out.sx.bx _ (.tail _ (.tail _ (.head _)))).cell 1
          have q7_0 := (SI.out.sx.bx _ (.tail _ (.head _))).cell 0
          have q7_1 := (SI.out.sx.bx _ (.tail _ (.head _))).cell 1
          have q7_2 := (SI.out.sx.bx _ (.tail _ (.head _))).cell 2
          have q7_3 := (SI.out.sx.bx _ (.tail _ (.head _))).cell 3
          simp at q3_0 q3_1 q4_0 q4_1 q7_0 q7_1 q7_2 q7_3
          go_wp2_with fail
          refine (itrn_any p q PG NG _ _ _ _ g hs XS YS _ (SI.out.li _ (.head _)).ints (SI.out.li _ (.tail _ (.head _))).ints (Ints.of_own (SI.out.sx.ls _ (.tail _ (.tail _ (.head _)))).1 (few50 HXM.out)) (Ints.of_own (SI.out.sx.ls _ (.tail _ (.tail _ (.head _)))).2.1 (few5 HYM.out)) HCP.out (SI.out.li _ (.head _)).num (SI.out.li _ (.tail _ (.head _))).num).mono ?_
          rintro e w14 ⟨rfl, hb⟩
          rw [HF.out.right]
          clear q3_0 q3_1 q4_0 q4_1 q7_0 q7_1 q7_2 q7_3
          have S21 := Lib.hid (SI.out.on hb)
          clear SI
          clear hb
          go_wp2
          go_ret
          exact ⟨rfl, S21.out.sx.be⟩
end Go.Proofs.YtipndddmjgjgpabDoor
