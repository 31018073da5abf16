/- The law FnOrdersBetween, walked. -/
import Derived.Test.YtimkmdedoacpfabDoorRngO
import Derived.Test.YtimkmdedoacpfabDoorDrK
import Derived.Test.YtimkmdedoacpfabDoorLwOrderOk
import Derived.Test.YtimkmdedoacpfabDoorRegionM
import Derived.Deep.Cut
import Derived.Test.YtimkmdedoacpfabDoorBLot
namespace Go.Proofs.YtimkmdedoacpfabDoor
open Go.RowKit

theorem ob_sg (p : Int) (v v' : Value) (es : List Int) (w : World) (h1 : Ints w v es) (h2 : Ints w v' es) :
    Calls Tryd.prog 48 #[.agg #[.int .i64 p, v], .agg #[.int .i64 p, v']] w fun e w' => e = .returned (.bool true) ∧ Below w.heap.size w w' := by
  obtain ⟨p0, p1, pl⟩ := boxes2 (P := [.int .i64 p, v]) (R := [.int .i64 p, v']) (Below.refl ((w.alloc (.cells #[.int .i64 p, v] 25)).alloc (.cells #[.int .i64 p, v'] 25)).heap.size _)
  have a0 := p0.cell 0
  have a1 := p0.cell 1
  have b0 := p1.cell 0
  have b1 := p1.cell 1
  simp at a0 a1 b0 b1
  have PL := Lib.hid pl
  have H1 := Lib.hid (h1.below pl)
  have H2 := Lib.hid (h2.below pl)
  have hd : (p == p) = true := by simp
  clear p0 p1 pl h1 h2
  go_enter Tryd.func48, Tryd.ntmps48
  go_wp2_with fail
  refine (same_eq _ _ es _ H1.out H2.out).mono ?_
  rintro e w1 ⟨rfl, hb⟩
  have B1 := Lib.hid (Below.on PL.out hb)
  clear hb a0 a1 b0 b1
  go_wp2
  go_ret
  exact ⟨rfl, B1.out⟩

def ObtPost (w : World) (e : Ending) (w' : World) : Prop := ∃ p gv g q hv h, e = .returned (.tuple #[.agg #[.int .i64 p, gv], .agg #[.int .i64 q, hv]]) ∧ (0 ≤ p ∧ p ≤ 5) ∧ (0 ≤ q ∧ q ≤ 5) ∧ Li w' gv g ∧ Li w' hv h ∧ Below w.heap.size w w'

set_option maxRecDepth 100000 in
set_option maxHeartbeats 3200000 in
theorem drawOrdersBetween_any (s : Value) (w : World) (h : CodeIn w s) : Calls Tryd.prog 45 #[s] w (ObtPost w) := by
  have HC := Lib.hid (show CodeIn ((w.alloc (.cells #[.int .i64 0, .slice none 0 0] 25)).alloc (.cells #[.int .i64 0, .slice none 0 0] 25)) s from code_more3 (code_more3 h _) _)
  clear h
  go_enter Tryd.func45, Tryd.ntmps45
  go_wp2_with fail
  refine (open_any _ _ HC.out).mono ?_
  rintro e w1 ⟨rfl, hr, hb⟩
  have D1 := Lib.hid (Dn.start2 (P := [.int .i64 0, .slice none 0 0]) (Q := [.int .i64 0, .slice none 0 0]) hr hb)
  clear hr hb HC
  go_wp2_with fail
  try rw [show ((w.alloc (.cells #[.int .i64 0, .slice none 0 0] 25)).alloc (.cells #[.int .i64 0, .slice none 0 0] 25)).heap.size = w.heap.size + 1 + 1 by simp]
  refine (two_any _ _ 12 _ (D1.out.rd _ rfl) (by omega) (by omega)).mono ?_
  rintro e w2 ⟨p, gv, g, q, hv, hs, ov, os, k2, rfl, tw, hk2, hg, hr⟩
  have D2 := Lib.hid (D1.out.mades (L'' := [(gv, g), (hv, hs), (ov, os)]) hg hr (fun x m => by
    simp at m
    rcases m with rfl | rfl | rfl
    · exact tw.og
    · exact tw.oh
    · exact tw.oo))
  obtain ⟨ga, gc, e1⟩ := Own.form tw.og
  obtain ⟨ha, hc9, e2⟩ := Own.form tw.oh
  obtain ⟨oa, oc, e3⟩ := Own.form tw.oo
  obtain ⟨m, m1, m5, hod⟩ := tw.od
  have hom : os.length = m := by have := hod.len; omega
  have HG := Lib.hid (show g.length ≤ 50 ∧ Sml g from ⟨tw.lg, tw.sg⟩)
  have HH := Lib.hid (show hs.length ≤ 50 ∧ Sml hs from ⟨tw.lh, tw.sh⟩)
  have HPQ := Lib.hid (show (0 ≤ p ∧ p ≤ 5) ∧ (0 ≤ q ∧ q ≤ 5) from ⟨⟨tw.p0, tw.p5⟩, ⟨tw.q0, tw.q5⟩⟩)
  subst e1 e2 e3
  have HN8 : Hid (w.heap.size + 1 < w2.heap.size) := Lib.hid ((D2.out.bx _ (.head _)).2.2.lt)
  obtain ⟨gn, hgn⟩ : ∃ gn, g.length = gn := ⟨_, rfl⟩
  obtain ⟨hn, hhn⟩ : ∃ gn, hs.length = gn := ⟨_, rfl⟩
  rw [hgn, hhn, hom] at D2
  rw [hgn, hhn, hom]
  clear hg hr tw hod hom hgn hhn D1
  obtain ⟨w3, hw3⟩ : ∃ z, z = (w2.alloc (.cells #[.int .i64 p, .slice ga gn gc] 25)).alloc (.cells #[.int .i64 q, .slice ha hn hc9] 25) := ⟨_, rfl⟩
  have D3 : Hid (Dn w (w.heap.size + 1 + 1) [(w2.heap.size + 1, [.int .i64 q, .slice ha hn hc9]), (w2.heap.size, [.int .i64 p, .slice ga gn gc]), (w.heap.size + 1, [.int .i64 0, .slice none 0 0]), (w.heap.size, [.int .i64 0, .slice none 0 0])] [(.slice ga gn gc, g), (.slice ha hn hc9, hs), (.slice oa m oc, os)] (some k2) w3) := Lib.hid (by
    have h1 := (D2.out.box (T := 25) [.int .i64 p, .slice ga gn gc]).box (T := 25) [.int .i64 q, .slice ha hn hc9]
    rw [show (w2.alloc (.cells [.int .i64 p, .slice ga gn gc].toArray 25)).heap.size = w2.heap.size + 1 by simp] at h1
    rw [hw3]; exact h1)
  have HW3 := Lib.hid hw3
  clear hw3 D2
  go_wp2_with fail
  rw [← HW3.out]
  apply wp_region_H (Z := List (Nat × List Value) × Option Nat) (S := fun k => k == 2 || k == 3) (C := fun z w' => Hid (Dn w (w.heap.size + 1 + 1) ((w2.heap.size + 1, [.int .i64 q, .slice ha hn hc9]) :: (w2.heap.size, [.int .i64 p, .slice ga gn gc]) :: z.1) [(.slice ga gn gc, g), (.slice ha hn hc9, hs), (.slice oa m oc, os)] z.2 w')) [0, 1] ([(w.heap.size + 1, [.int .i64 0, .slice none 0 0]), (w.heap.size, [.int .i64 0, .slice none 0 0])], some k2)
  · kernel_rfl
  · kernel_rfl
  · kernel_rfl
  · exact ⟨rfl, rfl, trivial⟩
  · rfl
  · decide
  · exact Lib.hid (D3.out.on (Below.refl _ _).drew)
  · intro z
    dsimp only [pickL, nthO]
    go_big_quiet_want
    go_big_quiet_op
    refine ⟨.agg #[.int .i64 p, .slice ga gn gc], fun w' hw' => ?_, ?_⟩
    · have q9 := (hw'.out.bx _ (.tail _ (.head _))).2.2
      have q0 := q9.cell 0
      have q1 := q9.cell 1
      simp at q0 q1
      simp [go_sem, q0, q1]
    go_big_quiet_on
    go_big_quiet_want
    go_big_quiet_op
    refine ⟨.agg #[.int .i64 q, .slice ha hn hc9], fun w' hw' => ?_, ?_⟩
    · have q9 := (hw'.out.bx _ (.head _)).2.2
      have q0 := q9.cell 0
      have q1 := q9.cell 1
      simp at q0 q1
      simp [go_sem, q0, q1]
    go_big_quiet_on
    exact wpQuiet_nil rfl
  · skip
    refine wpAnyH_special (i := 2) (d := none) rfl (by kernel_rfl) rfl rfl (by kernel_rfl) fun we he => ?_
    have kb := (he.out.bx _ (.tail _ (.tail _ (.tail _ (.head _))))).2.2
    have k0 := kb.cell 0; have k1 := kb.cell 1; have f0 := kb.frozen 0; have f1 := kb.frozen 1
    simp at k0 k1
    refine ⟨undef, (we.setCell ⟨w.heap.size, 0, none⟩ (.int .i64 p)).setCell ⟨w.heap.size, 1, none⟩ (.slice ga gn gc), ([((w.heap.size + 1), [.int .i64 0, .slice none 0 0]), (w.heap.size, [.int .i64 p, .slice ga gn gc])], none), .inr ⟨by simp [go_sem, k0, k1, f0, f1], rfl⟩, Lib.hid ((he.out.put (B1 := [((w2.heap.size + 1), [.int .i64 q, .slice ha hn hc9]), (w2.heap.size, [.int .i64 p, .slice ga gn gc]), ((w.heap.size + 1), [.int .i64 0, .slice none 0 0])]) (B2 := []) (ne2 HN8.out (Nat.lt_succ_of_lt HN8.out)) 0 _).put (B1 := [((w2.heap.size + 1), [.int .i64 q, .slice ha hn hc9]), (w2.heap.size, [.int .i64 p, .slice ga gn gc]), ((w.heap.size + 1), [.int .i64 0, .slice none 0 0])]) (B2 := []) (ne2 HN8.out (Nat.lt_succ_of_lt HN8.out)) 1 _), ?_⟩
    clear he kb k0 k1 f0 f1
    refine wpAnyH_special (i := 3) (d := none) rfl (by kernel_rfl) rfl rfl (by kernel_rfl) fun we he => ?_
    have kb := (he.out.bx _ (.tail _ (.tail _ (.head _)))).2.2
    have k0 := kb.cell 0; have k1 := kb.cell 1; have f0 := kb.frozen 0; have f1 := kb.frozen 1
    simp at k0 k1
    refine ⟨undef, (we.setCell ⟨(w.heap.size + 1), 0, none⟩ (.int .i64 q)).setCell ⟨(w.heap.size + 1), 1, none⟩ (.slice ha hn hc9), ([((w.heap.size + 1), [.int .i64 q, .slice ha hn hc9]), (w.heap.size, [.int .i64 p, .slice ga gn gc])], none), .inr ⟨by simp [go_sem, Act.put, k0, k1, f0, f1], rfl⟩, Lib.hid ((he.out.put (B1 := [((w2.heap.size + 1), [.int .i64 q, .slice ha hn hc9]), (w2.heap.size, [.int .i64 p, .slice ga gn gc])]) (B2 := [(w.heap.size, [.int .i64 p, .slice ga gn gc])]) (ne3 HN8.out (Nat.lt_succ_of_lt HN8.out)) 0 _).put (B1 := [((w2.heap.size + 1), [.int .i64 q, .slice ha hn hc9]), (w2.heap.size, [.int .i64 p, .slice ga gn gc])]) (B2 := [(w.heap.size, [.int .i64 p, .slice ga gn gc])]) (ne3 HN8.out (Nat.lt_succ_of_lt HN8.out)) 1 _), ?_⟩
    clear he kb k0 k1 f0 f1
    refine ⟨by kernel_rfl, fun w9 hz => ?_⟩
    simp only [Act.put]
    dsimp only at hz
    have r0 := (hz.out.bx _ (.tail _ (.tail _ (.tail _ (.head _))))).2.2.cell 0
    have r1 := (hz.out.bx _ (.tail _ (.tail _ (.tail _ (.head _))))).2.2.cell 1
    have s0 := (hz.out.bx _ (.tail _ (.tail _ (.head _)))).2.2.cell 0
    have s1 := (hz.out.bx _ (.tail _ (.tail _ (.head _)))).2.2.cell 1
    simp at r0 r1 s0 s1
    go_wp2
    refine bodyPost_ret (v := .tuple #[.agg #[.int .i64 p, .slice ga gn gc], .agg #[.int .i64 q, .slice ha hn hc9]]) ?_ rfl ?_
    · simp [results, Tryd.results45, go_sem, r0, r1, s0, s1]
    · exact ⟨p, _, g, q, _, hs, rfl, HPQ.out.1, HPQ.out.2, own_li (hz.out.ls _ (.head _)).1 HG.out.1 HG.out.2, own_li (hz.out.ls _ (.tail _ (.head _))).1 HH.out.1 HH.out.2, hz.out.be⟩
/-- What the law says of the orders between two graphs: P33, P71. -/
structure ObFacts (p : Int) (g : List Int) (q : Int) (h : List Int) : Prop where
  pq : p = q
  each : ∀ x, x ∈ btw p g q h → gmP p g x = p ∧ gmE p g x = h
  self : (btw p g p g).length = (btw p g q h).length
  back : (btw q h p g).length = (btw p g q h).length
theorem ob_facts {p q : Int} {g h : List Int} (h0 : 0 < (btw p g q h).length) : ObFacts p g q h := by
  obtain ⟨k, _, _⟩ := btw_mem.1 (row_mem h0)
  refine ⟨(btB_true.1 k).2.2, fun x hx => ?_, (btw_self h0).symm, (btw_back p g q h).symm⟩
  obtain ⟨k, ho, e⟩ := btw_mem.1 hx
  obtain ⟨k1, _, _⟩ := btB_true.1 k
  obtain ⟨e1, e2⟩ := gm_yes (gmB_true.2 ⟨k1, ho⟩)
  exact ⟨e1, by rw [e2, e]⟩
theorem ob5 {n : Nat} (h : n ≤ 5) : n ≤ maxLen := by unfold maxLen; omega
theorem ob50 {n : Nat} (h : n ≤ 50) : n ≤ maxLen := by unfold maxLen; omega
theorem btw_five {p q : Int} {g h : List Int} (hp : p ≤ 5) : ∀ x, x ∈ btw p g q h → x.length ≤ 5 := fun x hx => by
  have h1 := (btw_mem.1 hx).2.1
  have := h1.len; have := h1.m5; omega

set_option maxRecDepth 100000 in
set_option maxHeartbeats 6400000 in
theorem lOrdersBetween_walk (s : Value) (w : World) (h : CodeIn w s) (G : Gr w) : Calls Tryd.prog 11 #[s] w fun e w' => e = .returned (.bool true) ∧ Below w.heap.size w w' := by
  obtain ⟨a0, len0, cap0, rfl⟩ := h.slice
  have H := Lib.hid h; clear h
  have G0 := Lib.hid G; clear G
  by_cases hl : 1048576 < len0
  · go_enter Tryd.func11, Tryd.ntmps11
    go_wp2
    go_ret
    exact ⟨rfl, Below.refl _ _⟩
  go_enter Tryd.func11, Tryd.ntmps11
  go_wp2_with fail
  refine (drawOrdersBetween_any _ _ H.out).mono ?_
  rintro e w1 ⟨p, gv, g, q, hv, hs, rfl, hp, hq, l1, l2, hb⟩
  have X1 := Lib.hid l1
  have X2 := Lib.hid l2
  clear l1 l2
  have S1 := Lib.hid (Lq.start hb)
  clear hb
  obtain ⟨ga, gc, e1⟩ := Own.form_ints X1.out.ints
  subst e1
  obtain ⟨ha, hc, e2⟩ := Own.form_ints X2.out.ints
  subst e2
  have S2 := Lib.hid (S1.out.more X2.out)
  clear S1
  have S3 := Lib.hid (S2.out.more X1.out)
  clear S2
  clear X1 X2
  have IP : Hid (intIn p) := Lib.hid ⟨by omega, by omega⟩
  have IQ : Hid (intIn q) := Lib.hid ⟨by omega, by omega⟩
  obtain ⟨XT, hXT⟩ : ∃ r, btw p g q hs = r := ⟨_, rfl⟩
  have HFT : Hid (FewSS XT) := Lib.hid (by rw [← hXT]; exact btw_short _ _ _ _)
  have HFF : Hid (0 < XT.length → ObFacts p g q hs) := Lib.hid (fun h => ob_facts (by rw [hXT]; exact h))
  have HFW : Hid (∀ x, x ∈ XT → x.length ≤ 5) := Lib.hid (by rw [← hXT]; exact btw_five hp.2)
  have HXT := Lib.hid hXT
  clear hXT
  obtain ⟨w2, hw2⟩ : ∃ z, z = ((w1.alloc (.cells #[.int .i64 p, .slice ga g.length gc] 25)).alloc (.cells #[.int .i64 q, .slice ha hs.length hc] 25)) := ⟨_, rfl⟩
  have S4 : Hid (Lq w [(.slice ga g.length gc, g), (.slice ha hs.length hc, hs)] [((w1.heap.size + 1), [.int .i64 q, .slice ha hs.length hc]), (w1.heap.size, [.int .i64 p, .slice ga g.length gc])] [] w2) := Lib.hid (by rw [hw2]; have h9 := ((S3.out.made [.int .i64 p, .slice ga g.length gc] 25).made [.int .i64 q, .slice ha hs.length hc] 25); simpa using h9)
  clear S3
  have Hw2 := Lib.hid hw2
  clear hw2
  have q3_0 := (S4.out.sx.bx _ (.tail _ (.head _))).cell 0
  have q3_1 := (S4.out.sx.bx _ (.tail _ (.head _))).cell 1
  have q4_0 := (S4.out.sx.bx _ (.head _)).cell 0
  have q4_1 := (S4.out.sx.bx _ (.head _)).cell 1
  simp at q3_0 q3_1 q4_0 q4_1
  rw [Hw2.out] at q3_0 q3_1 q4_0 q4_1
  go_wp2_with fail
  rw [← Hw2.out]
  refine (ibt_any p q _ _ g hs _ (S4.out.li _ (.head _)).ints (S4.out.li _ (.tail _ (.head _))).ints (S4.out.li _ (.head _)).num (S4.out.li _ (.tail _ (.head _))).num).mono ?_
  rintro e w3 ⟨v1, us1, rfl, oo, hb⟩
  rw [HXT.out] at oo
  clear q3_0 q3_1 q4_0 q4_1
  have S5 := Lib.hid (S4.out.on hb)
  clear S4
  obtain ⟨b1a, b1c, e9⟩ := oo.form
  subst e9
  have S6 := Lib.hid (S5.out.add (Hl.mk3 oo (Nat.le_refl _)))
  clear S5
  clear hb oo
  have q3_0 := (S6.out.sx.bx _ (.tail _ (.head _))).cell 0
  have q3_1 := (S6.out.sx.bx _ (.tail _ (.head _))).cell 1
  have q4_0 := (S6.out.sx.bx _ (.head _)).cell 0
  have q4_1 := (S6.out.sx.bx _ (.head _)).cell 1
  simp at q3_0 q3_1 q4_0 q4_1
  go_wp2_with fail
  refine (sbt_any p q _ _ g hs _ (S6.out.li _ (.head _)).ints (S6.out.li _ (.tail _ (.head _))).ints IP.out IQ.out (S6.out.li _ (.head _)).num (S6.out.li _ (.tail _ (.head _))).num).mono ?_
  rintro e w4 ⟨v2, us2, rfl, oo, hb⟩
  rw [HXT.out] at oo
  clear q3_0 q3_1 q4_0 q4_1
  have S7 := Lib.hid (S6.out.on hb)
  clear S6
  obtain ⟨b2a, b2c, e9⟩ := oo.form
  subst e9
  have S8 := Lib.hid (S7.out.add (Hl.mk3 oo (Nat.le_refl _)))
  clear S7
  clear hb oo
  go_wp2_with fail
  refine (samer_any _ _ XT _ (HFT.out.ints (S8.out.sx.ls _ (.tail _ (.head _))).1) (HFT.out.ints (S8.out.sx.ls _ (.head _)).1)).mono ?_
  rintro e w5 ⟨rfl, hb⟩
  have S9 := Lib.hid (S8.out.on hb)
  clear S8
  clear hb
  obtain ⟨n, hn⟩ : ∃ n, XT.length = n := ⟨_, rfl⟩
  have HN := Lib.hid hn
  have HAT := Lib.hid (show ∀ j, j < n → ∃ gb, b1a = some ⟨gb, 0, none⟩ ∧ ∀ w', Hid (Lq w [(.slice ga g.length gc, g), (.slice ha hs.length hc, hs)] [((w1.heap.size + 1), [.int .i64 q, .slice ha hs.length hc]), (w1.heap.size, [.int .i64 p, .slice ga g.length gc])] [.s w3.heap.size w4.heap.size (.slice b2a XT.length b2c) us2 XT, .s w2.heap.size w3.heap.size (.slice b1a XT.length b1c) us1 XT] w') → w'.cell? ⟨gb, j, none⟩ = some (val us1 j) ∧ Ints w' (val us1 j) (row XT j) ∧ capB (val us1 j) from fun j hj => by
    obtain ⟨a9, c9, e9, h9⟩ := outer_cell (S9.out.sx.ls _ (.tail _ (.head _))).1.outer
    rw [(S9.out.sx.ls _ (.tail _ (.head _))).1.len] at e9
    cases e9
    obtain ⟨gb, e8, _, _⟩ := h9 j (by rw [(S9.out.sx.ls _ (.tail _ (.head _))).1.len, hn]; exact hj)
    refine ⟨gb, e8, fun w' hw' => ?_⟩
    have o9 := (hw'.out.sx.ls _ (.tail _ (.head _))).1
    obtain ⟨a7, c7, e7, h7⟩ := outer_cell o9.outer
    rw [o9.len] at e7
    cases e7
    obtain ⟨gb', e6, _, e5⟩ := h7 j (by rw [o9.len, hn]; exact hj)
    rw [e8] at e6
    cases e6
    have r9 := o9.rows j (by rw [o9.len, hn]; exact hj)
    exact ⟨e5, Ints.of_own r9 (ob5 (HFW.out _ (row_mem (by rw [hn]; exact hj)))), r9.capped⟩)
  have SL : Hid (Lq w [(.slice ga g.length gc, g), (.slice ha hs.length hc, hs)] [((w1.heap.size + 1), [.int .i64 q, .slice ha hs.length hc]), (w1.heap.size, [.int .i64 p, .slice ga g.length gc])] [.s w3.heap.size w4.heap.size (.slice b2a XT.length b2c) us2 XT, .s w2.heap.size w3.heap.size (.slice b1a XT.length b1c) us1 XT] w5) := S9
  clear S9
  rw [hn]
  by_cases h0 : n = 0
  · subst h0
    clear hn
    go_wp2_with fail
    refine (alive_any _ (G0.out.on SL.out.sx.be)).mono ?_
    rintro e w6 ⟨rfl, rfl⟩
    go_wp2
    go_ret
    exact ⟨rfl, SL.out.sx.be⟩
  have HF := Lib.hid (HFF.out (by omega))
  obtain rfl : p = q := HF.out.pq
  clear hn
  have hne : (((n : Nat) : Int) == 0) = false := by simp [h0]
  have HN0 := Lib.hid h0
  clear h0
  go_upto_region 10 with (fail)
  go_loopw [6] (fun i wr => ∃ j : Nat, j ≤ n ∧ i = .int .i64 j ∧ Hid (Lq w [(.slice ga g.length gc, g), (.slice ha hs.length hc, hs)] [((w1.heap.size + 1), [.int .i64 p, .slice ha hs.length hc]), (w1.heap.size, [.int .i64 p, .slice ga g.length gc])] [.s w3.heap.size w4.heap.size (.slice b2a XT.length b2c) us2 XT, .s w2.heap.size w3.heap.size (.slice b1a XT.length b1c) us1 XT] wr)) (fun i _ => n - (intOf i).toNat)
  case atStart => exact ⟨0, by omega, rfl, SL⟩
  case round =>
    clear SL
    obtain ⟨j, hj, rfl, SI⟩ := hrel
    obtain ⟨wo, rfl⟩ : ∃ wo : World, wo = wr := ⟨_, rfl⟩
    by_cases hjn : j < n
    · have hj1 : (j : Int) < (n : Int) := by omega
      have hn9 := HFT.out.len
      rw [HN.out] at hn9
      obtain ⟨gb, rfl, hat⟩ := HAT.out j hjn
      have HA := Lib.hid hat
      have HM := Lib.hid (row_mem (xss := XT) (j := j) (by rw [HN.out]; exact hjn))
      clear hat
      have HEA : Hid (gmP p g (row XT j) = p ∧ gmE p g (row XT j) = hs) := Lib.hid (HF.out.each _ (by rw [HXT.out]; exact HM.out))
      go_wp2_with fail
      apply wp_region_H (Z := List Cp × Option (Nat × List Value)) (S := fun k => k == 5 || k == 7) (C := fun z w' => Hid (Zx wo z.1 z.2 w')) [0, 1, 2, 3, 4, 6] ([], none)
      · kernel_rfl
      · kernel_rfl
      · kernel_rfl
      · exact ⟨rfl, rfl, rfl, rfl, rfl, rfl, trivial⟩
      · rfl
      · decide
      · exact Lib.hid (Zx.start (Below.refl _ _).drew)
      · intro z
        dsimp only [pickL, nthO]
        go_big_quiet_want
        go_big_quiet_op
        refine ⟨.agg #[.int .i64 p, .slice ga g.length gc], fun w' hw' => ?_, ?_⟩
        · have q9 := (SI.out.on hw'.out.be).sx.bx _ (.tail _ (.head _))
          have q0 := q9.cell 0
          have q1 := q9.cell 1
          simp at q0 q1
          simp [go_sem, q0, q1]
        go_big_quiet_on
        go_big_quiet_want; go_big_quiet_op; first | go_big_quiet_on | (refine ⟨_, fun _ _ => rfl, ?_⟩; go_big_quiet_on)
        go_big_quiet_want; go_big_quiet_op; first | go_big_quiet_on | (refine ⟨_, fun _ _ => rfl, ?_⟩; go_big_quiet_on)
        go_big_quiet_want; go_big_quiet_op; first | go_big_quiet_on | (refine ⟨_, fun _ _ => rfl, ?_⟩; go_big_quiet_on)
        go_big_quiet_want
        go_big_quiet_op
        refine ⟨val us1 j, fun w' hw' => ?_, ?_⟩
        · have q0 := (HA.out w' (Lib.hid (SI.out.on hw'.out.be))).1
          simp [go_sem, q0]
        go_big_quiet_on
        go_big_quiet_want
        go_big_quiet_op
        refine ⟨.agg #[.int .i64 p, .slice ha hs.length hc], fun w' hw' => ?_, ?_⟩
        · have q9 := (SI.out.on hw'.out.be).sx.bx _ (.head _)
          have q0 := q9.cell 0
          have q1 := q9.cell 1
          simp at q0 q1
          simp [go_sem, q0, q1]
        go_big_quiet_on
        exact wpQuiet_nil rfl
      · skip
        refine wpAnyH_call (i := 5) (d := some 39) 49 #[.agg #[.int .i64 p, .slice ga g.length gc], val us1 j] rfl (by kernel_rfl) rfl rfl (by kernel_rfl) (fun _ => by kernel_rfl) fun wa1 hc => ?_
        have hrow := HA.out wa1 (Lib.hid (SI.out.on hc.out.be))
        refine (igm_any p _ _ g (row XT j) wa1 ((Lib.hid (SI.out.on hc.out.be)).out.li _ (.head _)).ints hrow.2.1 hrow.2.2 ((Lib.hid (SI.out.on hc.out.be)).out.li _ (.head _)).num).mono ?_
        rintro e wb1 ⟨v9, rfl, oo, hb⟩
        rw [HEA.out.2] at oo
        rw [HEA.out.1]
        refine ⟨_, rfl, ([.l wa1.heap.size wb1.heap.size v9 hs], none), Lib.hid (hc.out.add hb (Hl.mk1 oo) (Nat.le_refl _)), ?_⟩
        clear hc oo hb hrow
        refine wpAnyH_call (i := 7) (d := some 41) 48 #[.agg #[.int .i64 p, v9], .agg #[.int .i64 p, .slice ha hs.length hc]] rfl (by kernel_rfl) rfl rfl (by kernel_rfl) (fun _ => by kernel_rfl) fun wa2 hc => ?_
        refine (ob_sg p v9 _ hs wa2 (Ints.of_own (hc.out.ls _ (.head _)).1 (ob50 (show hs.length ≤ 50 from ((Lib.hid (SI.out.on hc.out.be)).out.li _ (.tail _ (.head _))).few))) ((Lib.hid (SI.out.on hc.out.be)).out.li _ (.tail _ (.head _))).ints).mono ?_
        rintro e wb2 ⟨rfl, hb⟩
        refine ⟨_, rfl, ([.l wa1.heap.size wb1.heap.size v9 hs], none), Lib.hid (hc.out.on hb), ?_⟩
        clear hb hc
        refine wpAnyH_take (i := 8) (d := some 42) (.bool false) rfl (by kernel_rfl) rfl rfl (by kernel_rfl) (by kernel_rfl) (by kernel_rfl) (fun _ => by kernel_rfl) ?_
        refine ⟨by kernel_rfl, fun w7 hz => ?_⟩
        simp only [Act.put, List.setIfInBounds_toArray, List.set_cons_zero, List.set_cons_succ]
        have S10 := Lib.hid (SI.out.on hz.out.be)
        clear SI
        clear hz
        go_wp2
        go_roundw
        case rel => exact ⟨j + 1, by omega, by go_num, S10⟩
        case measure => simp [intOf]; omega
    have hj1 : ¬ (j : Int) < (n : Int) := by omega
    have HS1 := Lib.hid HF.out.self
    have HS2 := Lib.hid HF.out.back
    rw [HXT.out, HN.out] at HS1 HS2
    clear hjn hne
    have q3_0 := (SI.out.sx.bx _ (.tail _ (.head _))).cell 0
    have q3_1 := (SI.out.sx.bx _ (.tail _ (.head _))).cell 1
    have q4_0 := (SI.out.sx.bx _ (.head _)).cell 0
    have q4_1 := (SI.out.sx.bx _ (.head _)).cell 1
    simp at q3_0 q3_1 q4_0 q4_1
    go_wp2_with fail
    refine (ibt_any p p _ _ g g _ (SI.out.li _ (.head _)).ints (SI.out.li _ (.head _)).ints (SI.out.li _ (.head _)).num (SI.out.li _ (.head _)).num).mono ?_
    rintro e w8 ⟨v8, us8, rfl, oo, hb⟩
    obtain ⟨ba8, bc8, e9⟩ := oo.form
    rw [HS1.out] at e9
    subst e9
    clear q3_0 q3_1 q4_0 q4_1
    have S11 := Lib.hid (SI.out.on hb)
    clear SI
    clear hb oo
    have hd1 : (((n : Nat) : Int) == (n : Int)) = true := by simp
    have q3_0 := (S11.out.sx.bx _ (.tail _ (.head _))).cell 0
    have q3_1 := (S11.out.sx.bx _ (.tail _ (.head _))).cell 1
    have q4_0 := (S11.out.sx.bx _ (.head _)).cell 0
    have q4_1 := (S11.out.sx.bx _ (.head _)).cell 1
    simp at q3_0 q3_1 q4_0 q4_1
    go_wp2_with fail
    refine (ibt_any p p _ _ hs g _ (S11.out.li _ (.tail _ (.head _))).ints (S11.out.li _ (.head _)).ints (S11.out.li _ (.tail _ (.head _))).num (S11.out.li _ (.head _)).num).mono ?_
    rintro e w9 ⟨v9, us9, rfl, oo, hb⟩
    obtain ⟨ba9, bc9, e9⟩ := oo.form
    rw [HS2.out] at e9
    subst e9
    clear q3_0 q3_1 q4_0 q4_1
    have S12 := Lib.hid (S11.out.on hb)
    clear S11
    clear hb oo
    go_wp2
    go_ret
    exact ⟨rfl, S12.out.sx.be⟩
end Go.Proofs.YtimkmdedoacpfabDoor
