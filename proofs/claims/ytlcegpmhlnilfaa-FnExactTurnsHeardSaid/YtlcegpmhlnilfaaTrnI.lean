/- impl: leads, TurnMade, TurnOk. -/
import Derived.Test.YtlcegpmhlnilfaaGphK
import Derived.Test.YtlcegpmhlnilfaaBSp7
namespace Go.Proofs.Ytlcegpmhlnilfaa
open Go.RowKit

theorem gmE_few {p : Int} {es o : List Int} : (gmE p es o).length ≤ 50 := by
  cases h : gmB p es o
  · rw [(gm_no h).2]; simp
  · rw [(gm_yes h).2]
    obtain ⟨hg, ho⟩ := gmB_true.1 h
    rw [mov_len ho hg]; exact hg.few
/-- leads. -/
def ldB (p : Int) (g : List Int) (q : Int) (h o : List Int) : Bool := gkB q h && (decide (gmP p g o = q) && sameB (gmE p g o) h)
theorem ldB_is (p q : Int) (g h o : List Int) : ldB p g q h o = (btB p g q h && (odB o p && leads g h o)) := by
  unfold ldB btB leads
  cases k2 : gkB q h
  · simp
  · have hq := (gkB_true.1 k2).p1
    cases k : gmB p g o
    · rw [(gm_no k).1]
      have : decide ((0 : Int) = q) = false := by simp; omega
      rw [this]
      unfold gmB at k
      cases k1 : gkB p g
      · simp
      · rw [k1] at k; simp at k; simp [k]
    · rw [(gm_yes k).1, (gm_yes k).2]
      obtain ⟨a, b⟩ := gmB_true.1 k
      rw [gkB_true.2 a, odB_true.2 b]; simp

set_option maxRecDepth 20000 in
set_option maxHeartbeats 3200000 in
theorem ild_sl (p q : Int) (ga ha : Option Addr) (gn gc hn hk : Nat) (ov : Value) (g h o : List Int) (w : World) (hg : Ints w (.slice ga gn gc) g) (hh : Ints w (.slice ha hn hk) h) (ho : Ints w ov o) (co : capB ov) (hs : ∀ j, j < g.length → intIn (nth g j)) (hs' : ∀ j, j < h.length → intIn (nth h j)) :
    Calls Try.prog 46 #[.agg #[.int .i64 p, (.slice ga gn gc)], .agg #[.int .i64 q, (.slice ha hn hk)], ov] w fun e w' => e = .returned (.bool (ldB p g q h o)) ∧ Below w.heap.size w w' := by
  obtain ⟨W, hWe⟩ : ∃ W, W = (w.alloc (.cells #[.int .i64 p, (.slice ga gn gc)] 30)).alloc (.cells #[.int .i64 q, (.slice ha hn hk)] 30) := ⟨_, rfl⟩
  obtain ⟨b0, b1, hW⟩ := boxes2 (w := w) (P := [.int .i64 p, (.slice ga gn gc)]) (R := [.int .i64 q, (.slice ha hn hk)]) (T1 := 30) (T2 := 30) (w1 := W) (by rw [hWe]; exact Below.refl _ _)
  have BD0 : Hid (Below W.heap.size W (((w.alloc (.cells #[.int .i64 p, (.slice ga gn gc)] 30)).alloc (.cells #[.int .i64 q, (.slice ha hn hk)] 30)).drew)) := Lib.hid (by rw [hWe]; exact (Below.refl _ _).drew)
  have BM0 : Hid (My W (gmE p g o) none (((w.alloc (.cells #[.int .i64 p, (.slice ga gn gc)] 30)).alloc (.cells #[.int .i64 q, (.slice ha hn hk)] 30)).drew)) := Lib.hid ⟨BD0.out, fun v e => by cases e⟩
  have BG := Lib.hid b0
  have BH := Lib.hid b1
  have HG := Lib.hid (show ∀ w', Below W.heap.size W w' → Ints w' (.slice ga gn gc) g from fun w' hb => (hg.below hW).below hb)
  have HH := Lib.hid (show ∀ w', Below W.heap.size W w' → Ints w' (.slice ha hn hk) h from fun w' hb => (hh.below hW).below hb)
  have HO := Lib.hid (show ∀ w', Below W.heap.size W w' → Ints w' ov o from fun w' hb => (ho.below hW).below hb)
  have CO := Lib.hid co
  have HSG := Lib.hid hs
  have HSH := Lib.hid hs'
  have HFE : Hid ((gmE p g o).length ≤ maxLen) := Lib.hid (Nat.le_trans gmE_few (by unfold maxLen; omega))
  have FIN : Hid (∀ w', Below W.heap.size W w' → Below w.heap.size w w') := Lib.hid fun w' hb => hW.trans (hb.mono hW.size)
  clear hWe hW b0 b1 hg hh ho hs hs' co
  cases k2 : gkB q h
  · have HX := Lib.hid (show ldB p g q h o = false by simp [ldB, k2])
    clear BM0
    go_enter Try.func46, Try.ntmps46
    go_wp2_with fail
    refine wp_region_cls (C := fun w' => Hid (Below W.heap.size W w')) (by kernel_rfl) (by kernel_rfl) BD0 ?_
    go_big_quiet_want
    go_big_quiet_op
    refine ⟨.agg #[.int .i64 q, (.slice ha hn hk)], fun w' hw' => ?_, ?_⟩
    · have q := BH.out.on hw'.out
      have q0 := q.cell 0
      have q1 := q.cell 1
      simp at q0 q1
      simp [go_sem, q0, q1]
    go_big_quiet_on
    go_big_quiet_want; go_big_quiet_op
    go_big_quiet_call ((intro hw; exact (igk_is k2 (HH.out _ hw.out) HSH.out).mono fun _ _ ⟨he, hb⟩ => ⟨he, Lib.hid (Below.on hw.out hb)⟩))
    go_big_quiet_want; go_big_quiet_op; first | go_big_quiet_on | (refine ⟨_, fun _ _ => rfl, ?_⟩; go_big_quiet_on)
    go_big_quiet_skip
    go_big_quiet_skip
    go_big_quiet_skip
    go_big_quiet_skip
    go_big_quiet_skip
    go_big_quiet_want; go_big_quiet_op; first | go_big_quiet_on | (refine ⟨_, fun _ _ => rfl, ?_⟩; go_big_quiet_on)
    try (go_big_quiet_want; go_big_quiet_op; first | go_big_quiet_on | (refine ⟨_, fun _ _ => rfl, ?_⟩; go_big_quiet_on))
    refine wpQuiet_nil ?_
    intro w3 hw3
    have B3 := Lib.hid (FIN.out _ hw3.out)
    clear hw3 BD0
    go_wp2
    go_ret
    exact ⟨by rw [HX.out]; rfl, B3.out⟩
  · have HX := Lib.hid (show ldB p g q h o = (decide (gmP p g o = q) && sameB (gmE p g o) h) by simp [ldB, k2])
    clear BD0
    go_enter Try.func46, Try.ntmps46
    go_wp2_with fail
    apply wp_region_H (Z := Option Value) (S := fun k => k == 5 || k == 7 || k == 8) (C := fun z w' => Hid (My W (gmE p g o) z w')) [0, 1, 2, 3, 4, 6] none
    · kernel_rfl
    · kernel_rfl
    · kernel_rfl
    · exact ⟨rfl, rfl, rfl, rfl, rfl, rfl, trivial⟩
    · rfl
    · decide
    · exact BM0
    · intro zz
      dsimp only [pickL, nthO]
      go_big_quiet_want
      go_big_quiet_op
      refine ⟨.agg #[.int .i64 q, (.slice ha hn hk)], fun w' hw' => ?_, ?_⟩
      · have q := BH.out.on hw'.out.1
        have q0 := q.cell 0
        have q1 := q.cell 1
        simp at q0 q1
        simp [go_sem, q0, q1]
      go_big_quiet_on
      go_big_quiet_want; go_big_quiet_op
      go_big_quiet_call ((intro hw; exact (igk_is k2 (HH.out _ hw.out.1) HSH.out).mono fun _ _ ⟨he, hb⟩ => ⟨he, Lib.hid ⟨Below.on hw.out.1 hb, fun v e => hw.out.2 v e |>.below hb⟩⟩))
      go_big_quiet_want; go_big_quiet_op; first | go_big_quiet_on | (refine ⟨_, fun _ _ => rfl, ?_⟩; go_big_quiet_on)
      go_big_quiet_want
      go_big_quiet_op
      refine ⟨.agg #[.int .i64 p, (.slice ga gn gc)], fun w' hw' => ?_, ?_⟩
      · have q := BG.out.on hw'.out.1
        have q0 := q.cell 0
        have q1 := q.cell 1
        simp at q0 q1
        simp [go_sem, q0, q1]
      go_big_quiet_on
      go_big_quiet_want; go_big_quiet_op; first | go_big_quiet_on | (refine ⟨_, fun _ _ => rfl, ?_⟩; go_big_quiet_on)
      go_big_quiet_want
      go_big_quiet_op
      refine ⟨.agg #[.int .i64 q, (.slice ha hn hk)], fun w' hw' => ?_, ?_⟩
      · have q := BH.out.on hw'.out.1
        have q0 := q.cell 0
        have q1 := q.cell 1
        simp at q0 q1
        simp [go_sem, q0, q1]
      go_big_quiet_on
      exact wpQuiet_nil rfl
    · refine wpAnyH_call (i := 5) (d := some 12) 48 #[.agg #[.int .i64 p, (.slice ga gn gc)], ov] rfl (by kernel_rfl) rfl rfl (by kernel_rfl) (fun _ => by kernel_rfl) fun wa hc => ?_
      refine (igm_any p (.slice ga gn gc) ov g o wa (HG.out _ hc.out.1) (HO.out _ hc.out.1) CO.out HSG.out).mono ?_
      rintro e wc ⟨mv, rfl, om, hb⟩
      refine ⟨_, rfl, some mv, Lib.hid ⟨Below.on hc.out.1 hb, fun v e => by cases e; exact Ints.of_own om HFE.out⟩, ?_⟩
      clear hc om hb
      refine wpAnyH_call (i := 7) (d := some 14) 69 #[.agg #[.int .i64 (gmP p g o), mv], .agg #[.int .i64 q, (.slice ha hn hk)]] rfl (by kernel_rfl) rfl rfl (by kernel_rfl) (fun _ => by kernel_rfl) fun wd hc => ?_
      refine (isg_any (gmP p g o) q mv (.slice ha hn hk) (gmE p g o) h wd (hc.out.2 mv rfl) (HH.out _ hc.out.1)).mono ?_
      rintro e we ⟨rfl, hb⟩
      refine ⟨_, rfl, none, Lib.hid ⟨Below.on hc.out.1 hb, fun v e => by cases e⟩, ?_⟩
      clear hc hb
      refine wpAnyH_special (i := 8) (d := some 15) rfl (by kernel_rfl) rfl rfl (by kernel_rfl) fun wa hc => ⟨.bool (ldB p g q h o), wa, none, .inl (by rw [HX.out]; first | kernel_rfl | simp [go_sem]), hc, ?_⟩
      clear hc
      refine wpAnyH_assign (i := 9) (d := some 6) _ rfl (by kernel_rfl) rfl rfl (by kernel_rfl) rfl ?_
      refine ⟨by kernel_rfl, fun w3 hw3 => ?_⟩
      simp only [Act.put, List.setIfInBounds_toArray, List.set_cons_succ, List.set_cons_zero]
      have B3 := Lib.hid (FIN.out _ hw3.out.1)
      clear hw3 BM0
      go_wp2
      go_ret
      exact ⟨rfl, B3.out⟩
theorem ild_is {p q : Int} {gv hv ov : Value} {g h o : List Int} {w : World} {r : Bool} (hr : ldB p g q h o = r) (hg : Ints w gv g) (hh : Ints w hv h) (ho : Ints w ov o) (co : capB ov) (hs : ∀ j, j < g.length → intIn (nth g j)) (hs' : ∀ j, j < h.length → intIn (nth h j)) :
    Calls Try.prog 46 #[.agg #[.int .i64 p, gv], .agg #[.int .i64 q, hv], ov] w fun e w' => e = .returned (.bool r) ∧ Below w.heap.size w w' := by
  rw [← hr]
  obtain ⟨_, _, rfl, _⟩ := hg.opened
  obtain ⟨_, _, rfl, _⟩ := hh.opened
  exact ild_sl p q _ _ _ _ _ _ ov g h o w hg hh ho co hs hs'

set_option maxRecDepth 20000 in
set_option maxHeartbeats 1600000 in
theorem imd_no (p q ask : Int) (ga ha : Option Addr) (gn gc hn hk : Nat) (tv : Value) (g h tell : List Int) (w : World) (hg : Ints w (.slice ga gn gc) g) (hh : Ints w (.slice ha hn hk) h) (ht : Ints w tv tell) (ct : capB tv) (hs : ∀ j, j < g.length → intIn (nth g j)) (hs' : ∀ j, j < h.length → intIn (nth h j)) (hb : mdT p g q h ask tell = false) :
    Calls Try.prog 59 #[.agg #[.int .i64 p, (.slice ga gn gc)], .agg #[.int .i64 q, (.slice ha hn hk)], .int .i64 ask, tv] w (MdPost p g q h ask tell w) := by
  have HX := Lib.hid hb
  have HB3 := boxes3w (w := w) [.int .i64 p, (.slice ga gn gc)] [.int .i64 q, (.slice ha hn hk)] [.int .i64 0, .slice none 0 0, .int .i64 0, .slice none 0 0] 30 30 60
  obtain ⟨W, hWe, hWs, hW, b0, b1, b2⟩ := HB3.out
  have B0 : Hid (Below W.heap.size W (((w.alloc (.cells #[.int .i64 p, (.slice ga gn gc)] 30)).alloc (.cells #[.int .i64 q, (.slice ha hn hk)] 30)).alloc (.cells #[.int .i64 0, .slice none 0 0, .int .i64 0, .slice none 0 0] 60))) := Lib.hid (by rw [hWe]; exact Below.refl _ _)
  have HWS := Lib.hid hWs
  have BG := Lib.hid b0
  have BH := Lib.hid b1
  have BO := Lib.hid b2
  have HG := Lib.hid (show ∀ w', Below W.heap.size W w' → Ints w' (.slice ga gn gc) g from fun w' hb => (hg.below hW).below hb)
  have HH := Lib.hid (show ∀ w', Below W.heap.size W w' → Ints w' (.slice ha hn hk) h from fun w' hb => (hh.below hW).below hb)
  have HT := Lib.hid (show ∀ w', Below W.heap.size W w' → Ints w' tv tell from fun w' hb => (ht.below hW).below hb)
  have CT := Lib.hid ct
  have HSG := Lib.hid hs
  have HSH := Lib.hid hs'
  have FIN : Hid (∀ w', Below W.heap.size W w' → Below w.heap.size w w') := Lib.hid fun w' hb => hW.trans (hb.mono hW.size)
  clear HB3 hWe hWs hW b0 b1 b2 hg hh ht hs hs' ct
  have cg0 := (BG.out.on B0.out).cell 0
  have cg1 := (BG.out.on B0.out).cell 1
  have ch0 := (BH.out.on B0.out).cell 0
  have ch1 := (BH.out.on B0.out).cell 1
  simp at cg0 cg1 ch0 ch1
  cases kb : btB p g q h
  · clear hb
    go_enter Try.func59, Try.ntmps59
    go_wp2_with fail
    refine (itwo_is kb (HG.out _ B0.out) (HH.out _ B0.out) HSG.out HSH.out).mono ?_
    rintro e w1 ⟨rfl, hb⟩
    have B1 := Lib.hid (Below.on B0.out hb)
    clear hb
    clear cg0 cg1 ch0 ch1
    have co0 := (BO.out.on B1.out).cell 0
    have co1 := (BO.out.on B1.out).cell 1
    have co2 := (BO.out.on B1.out).cell 2
    have co3 := (BO.out.on B1.out).cell 3
    simp at co0 co1 co2 co3
    have f0 := (BO.out.on B1.out).frozen 0
    have f1 := (BO.out.on B1.out).frozen 1
    have f2 := (BO.out.on B1.out).frozen 2
    have f3 := (BO.out.on B1.out).frozen 3
    have FF := Lib.hid (FIN.out _ B1.out)
    go_wp2
    refine bodyPost_ret (v := .tuple #[.agg #[.int .i64 0, .slice none 0 0, .int .i64 0, .slice none 0 0], .bool false]) ?_ rfl ?_
    · simp [results, Try.results59, go_sem, co0, co1, co2, co3]
    · unfold MdPost
      rw [HX.out]
      exact ⟨_, _, rfl, World.ownsRow_nil _ _ _ _, World.ownsRow_nil _ _ _ _, fun k hk => (by cases hk), (by first | exact below_set4 FF.out (by omega) | exact FF.out)⟩
  cases ki : (decide (0 ≤ ask) && decide (ask ≤ 1))
  · clear hb
    go_enter Try.func59, Try.ntmps59
    go_wp2_with fail
    refine (itwo_is kb (HG.out _ B0.out) (HH.out _ B0.out) HSG.out HSH.out).mono ?_
    rintro e w1 ⟨rfl, hb⟩
    have B1 := Lib.hid (Below.on B0.out hb)
    clear hb
    clear cg0 cg1 ch0 ch1
    go_wp2_with fail
    refine (iask_is ki).mono ?_
    rintro e wx ⟨rfl, rfl⟩
    have co0 := (BO.out.on B1.out).cell 0
    have co1 := (BO.out.on B1.out).cell 1
    have co2 := (BO.out.on B1.out).cell 2
    have co3 := (BO.out.on B1.out).cell 3
    simp at co0 co1 co2 co3
    have f0 := (BO.out.on B1.out).frozen 0
    have f1 := (BO.out.on B1.out).frozen 1
    have f2 := (BO.out.on B1.out).frozen 2
    have f3 := (BO.out.on B1.out).frozen 3
    have FF := Lib.hid (FIN.out _ B1.out)
    go_wp2
    refine bodyPost_ret (v := .tuple #[.agg #[.int .i64 0, .slice none 0 0, .int .i64 0, .slice none 0 0], .bool false]) ?_ rfl ?_
    · simp [results, Try.results59, go_sem, co0, co1, co2, co3]
    · unfold MdPost
      rw [HX.out]
      exact ⟨_, _, rfl, World.ownsRow_nil _ _ _ _, World.ownsRow_nil _ _ _ _, fun k hk => (by cases hk), (by first | exact below_set4 FF.out (by omega) | exact FF.out)⟩
  have ko : odB tell p = false := by unfold mdT at hb; rw [kb, ki] at hb; simpa using hb
  clear hb
  go_enter Try.func59, Try.ntmps59
  go_wp2_with fail
  refine (itwo_is kb (HG.out _ B0.out) (HH.out _ B0.out) HSG.out HSH.out).mono ?_
  rintro e w1 ⟨rfl, hb⟩
  have B1 := Lib.hid (Below.on B0.out hb)
  clear hb
  clear cg0 cg1 ch0 ch1
  go_wp2_with fail
  refine (iask_is ki).mono ?_
  rintro e wx ⟨rfl, rfl⟩
  have cg0 := (BG.out.on B1.out).cell 0
  simp at cg0
  go_wp2_with fail
  refine (iod_is ko (HT.out _ B1.out) CT.out).mono ?_
  rintro e w3 ⟨rfl, hb⟩
  have B2 := Lib.hid (Below.on B1.out hb)
  clear hb
  clear cg0
  have co0 := (BO.out.on B2.out).cell 0
  have co1 := (BO.out.on B2.out).cell 1
  have co2 := (BO.out.on B2.out).cell 2
  have co3 := (BO.out.on B2.out).cell 3
  simp at co0 co1 co2 co3
  have f0 := (BO.out.on B2.out).frozen 0
  have f1 := (BO.out.on B2.out).frozen 1
  have f2 := (BO.out.on B2.out).frozen 2
  have f3 := (BO.out.on B2.out).frozen 3
  have FF := Lib.hid (FIN.out _ B2.out)
  go_wp2
  refine bodyPost_ret (v := .tuple #[.agg #[.int .i64 0, .slice none 0 0, .int .i64 0, .slice none 0 0], .bool false]) ?_ rfl ?_
  · simp [results, Try.results59, go_sem, co0, co1, co2, co3]
  · unfold MdPost
    rw [HX.out]
    exact ⟨_, _, rfl, World.ownsRow_nil _ _ _ _, World.ownsRow_nil _ _ _ _, fun k hk => (by cases hk), (by first | exact below_set4 FF.out (by omega) | exact FF.out)⟩

set_option maxRecDepth 20000 in
set_option maxHeartbeats 1600000 in
theorem imd_0 (p ask : Int) (ga ha : Option Addr) (gn gc hn hk : Nat) (tv : Value) (g h tell : List Int) (w : World) (hg : Ints w (.slice ga gn gc) g) (hh : Ints w (.slice ha hn hk) h) (ht : Ints w tv tell) (ct : capB tv) (hs : ∀ j, j < g.length → intIn (nth g j)) (hs' : ∀ j, j < h.length → intIn (nth h j)) (hb : mdT p g p h ask tell = true) (hask : (ask == 1) = false) :
    Calls Try.prog 59 #[.agg #[.int .i64 p, (.slice ga gn gc)], .agg #[.int .i64 p, (.slice ha hn hk)], .int .i64 ask, tv] w (MdPost p g p h ask tell w) := by
  have hm := mdT_true.1 hb
  have kb : btB p g p h = true := btB_true.2 ⟨hm.gg, hm.gh, rfl⟩
  have ki : (decide (0 ≤ ask) && decide (ask ≤ 1)) = true := by have := hm.a0; have := hm.a1; simp; omega
  have ko : odB tell p = true := odB_true.2 hm.o
  have HGM := Lib.hid (gm_yes (gmB_true.2 ⟨hm.gg, hm.o⟩))
  have HT3 := Lib.hid (show tell.length ≤ 1000 by have := hm.o.len; have := hm.o.m5; omega)
  have HX : Hid (mdT p g p h ask tell = true ∧ mov tell (frm ask g h) = mov tell g) := Lib.hid ⟨hb, by rw [show frm ask g h = g by unfold frm; simp at hask; simp [hask]]⟩
  clear hm hb
  have HB3 := boxes3w (w := w) [.int .i64 p, (.slice ga gn gc)] [.int .i64 p, (.slice ha hn hk)] [.int .i64 0, .slice none 0 0, .int .i64 0, .slice none 0 0] 30 30 60
  obtain ⟨W, hWe, hWs, hW, b0, b1, b2⟩ := HB3.out
  have B0 : Hid (Below W.heap.size W (((w.alloc (.cells #[.int .i64 p, (.slice ga gn gc)] 30)).alloc (.cells #[.int .i64 p, (.slice ha hn hk)] 30)).alloc (.cells #[.int .i64 0, .slice none 0 0, .int .i64 0, .slice none 0 0] 60))) := Lib.hid (by rw [hWe]; exact Below.refl _ _)
  have HWS := Lib.hid hWs
  have BG := Lib.hid b0
  have BH := Lib.hid b1
  have BO := Lib.hid b2
  have HG := Lib.hid (show ∀ w', Below W.heap.size W w' → Ints w' (.slice ga gn gc) g from fun w' hb => (hg.below hW).below hb)
  have HH := Lib.hid (show ∀ w', Below W.heap.size W w' → Ints w' (.slice ha hn hk) h from fun w' hb => (hh.below hW).below hb)
  have HT := Lib.hid (show ∀ w', Below W.heap.size W w' → Ints w' tv tell from fun w' hb => (ht.below hW).below hb)
  have CT := Lib.hid ct
  have HSG := Lib.hid hs
  have HSH := Lib.hid hs'
  have FIN : Hid (∀ w', Below W.heap.size W w' → Below w.heap.size w w') := Lib.hid fun w' hb => hW.trans (hb.mono hW.size)
  clear HB3 hWe hWs hW b0 b1 b2 hg hh ht hs hs' ct
  have cg0 := (BG.out.on B0.out).cell 0
  have cg1 := (BG.out.on B0.out).cell 1
  have ch0 := (BH.out.on B0.out).cell 0
  have ch1 := (BH.out.on B0.out).cell 1
  simp at cg0 cg1 ch0 ch1
  go_enter Try.func59, Try.ntmps59
  go_wp2_with fail
  refine (itwo_is kb (HG.out _ B0.out) (HH.out _ B0.out) HSG.out HSH.out).mono ?_
  rintro e w1 ⟨rfl, hb⟩
  have B1 := Lib.hid (Below.on B0.out hb)
  clear hb
  clear cg0 cg1 ch0 ch1
  go_wp2_with fail
  refine (iask_is ki).mono ?_
  rintro e wx ⟨rfl, rfl⟩
  have cg0 := (BG.out.on B1.out).cell 0
  simp at cg0
  go_wp2_with fail
  refine (iod_is ko (HT.out _ B1.out) CT.out).mono ?_
  rintro e w3 ⟨rfl, hb⟩
  have B3 := Lib.hid (Below.on B1.out hb)
  clear hb
  clear cg0
  have cg0 := (BG.out.on B3.out).cell 0
  have cg1 := (BG.out.on B3.out).cell 1
  have ch0 := (BH.out.on B3.out).cell 0
  have ch1 := (BH.out.on B3.out).cell 1
  simp at cg0 cg1 ch0 ch1
  have B4 : Hid (Below W.heap.size W (w3.alloc (.cells #[.int .i64 p, (.slice ga gn gc)] 30))) := Lib.hid (Below.on B3.out (below_grow w3 (.cells #[.int .i64 p, (.slice ga gn gc)] 30)))
  go_wp2_with fail
  refine (igm_any p (.slice ga gn gc) tv g tell _ (HG.out _ B4.out) (HT.out _ B4.out) CT.out HSG.out).mono ?_
  rintro e w5 ⟨mv, rfl, om, hb⟩
  rw [HGM.out.2] at om
  rw [HGM.out.1]
  obtain ⟨va, vc, hv⟩ := om.form
  obtain ⟨n, hnn⟩ : ∃ n, (mov tell g).length = n := ⟨_, rfl⟩
  rw [hnn] at hv
  subst hv
  have B5 := Lib.hid (Below.on B4.out hb)
  have OM := Lib.hid om
  have SZ : Hid (W.heap.size ≤ (w3.alloc (.cells #[.int .i64 p, (.slice ga gn gc)] 30)).heap.size ∧ W.heap.size ≤ w5.heap.size) := Lib.hid ⟨B4.out.size, B5.out.size⟩
  clear cg0 cg1 ch0 ch1
  clear hb om hnn
  go_wp2_with fail
  refine (iclone_any tv tell _ (HT.out _ B5.out) HT3.out).mono ?_
  rintro e w6 ⟨cv, rfl, oc, hb⟩
  have B6 := Lib.hid (Below.on B5.out hb)
  have OM6 := Lib.hid (own_below OM.out hb)
  obtain ⟨ta, tcc, htv⟩ := Own.form oc
  obtain ⟨u, hu⟩ : ∃ u, tell.length = u := ⟨_, rfl⟩
  rw [hu] at htv
  subst htv
  have O3 := Lib.hid oc
  have AP : Hid (∀ k, (Value.slice va n vc).ownBlock = some k → (Value.slice ta u tcc).ownBlock = some k → False) := Lib.hid fun k h1 h2 => by
    have := (OM.out.lt k h1).2; have := (O3.out.lt k h2).1; omega
  have NN : Hid (w.heap.size + 1 + 1 < (w3.alloc (.cells #[.int .i64 p, (.slice ga gn gc)] 30)).heap.size ∧ w.heap.size + 1 + 1 < w5.heap.size ∧ w.heap.size ≤ (w3.alloc (.cells #[.int .i64 p, (.slice ga gn gc)] 30)).heap.size ∧ w.heap.size ≤ w5.heap.size) := Lib.hid (by have := HWS.out; have := SZ.out; omega)
  clear hb oc hu
  have co0 := (BO.out.on B6.out).cell 0
  have co1 := (BO.out.on B6.out).cell 1
  have co2 := (BO.out.on B6.out).cell 2
  have co3 := (BO.out.on B6.out).cell 3
  simp at co0 co1 co2 co3
  have f0 := (BO.out.on B6.out).frozen 0
  have f1 := (BO.out.on B6.out).frozen 1
  have f2 := (BO.out.on B6.out).frozen 2
  have f3 := (BO.out.on B6.out).frozen 3
  have FF := Lib.hid (FIN.out _ B6.out)
  go_wp2
  refine bodyPost_ret (v := .tuple #[.agg #[.int .i64 p, .slice va n vc, .int .i64 ask, .slice ta u tcc], .bool true]) ?_ rfl ?_
  · simp [results, Try.results59, go_sem, co0, co1, co2, co3]
  · unfold MdPost
    rw [HX.out.1, HX.out.2]
    exact ⟨_, _, rfl, own_set4 OM6.out NN.out.1 NN.out.2.2.1, own_set4 O3.out NN.out.2.1 NN.out.2.2.2, AP.out, below_set4 FF.out (by omega)⟩

set_option maxRecDepth 20000 in
set_option maxHeartbeats 1600000 in
theorem imd_1 (p ask : Int) (ga ha : Option Addr) (gn gc hn hk : Nat) (tv : Value) (g h tell : List Int) (w : World) (hg : Ints w (.slice ga gn gc) g) (hh : Ints w (.slice ha hn hk) h) (ht : Ints w tv tell) (ct : capB tv) (hs : ∀ j, j < g.length → intIn (nth g j)) (hs' : ∀ j, j < h.length → intIn (nth h j)) (hb : mdT p g p h ask tell = true) (hask : (ask == 1) = true) :
    Calls Try.prog 59 #[.agg #[.int .i64 p, (.slice ga gn gc)], .agg #[.int .i64 p, (.slice ha hn hk)], .int .i64 ask, tv] w (MdPost p g p h ask tell w) := by
  have hm := mdT_true.1 hb
  have kb : btB p g p h = true := btB_true.2 ⟨hm.gg, hm.gh, rfl⟩
  have ki : (decide (0 ≤ ask) && decide (ask ≤ 1)) = true := by have := hm.a0; have := hm.a1; simp; omega
  have ko : odB tell p = true := odB_true.2 hm.o
  have HGM := Lib.hid (gm_yes (gmB_true.2 ⟨hm.gh, hm.o⟩))
  have HT3 := Lib.hid (show tell.length ≤ 1000 by have := hm.o.len; have := hm.o.m5; omega)
  have HX : Hid (mdT p g p h ask tell = true ∧ mov tell (frm ask g h) = mov tell h) := Lib.hid ⟨hb, by rw [show frm ask g h = h by unfold frm; simp at hask; simp [hask]]⟩
  clear hm hb
  have HB3 := boxes3w (w := w) [.int .i64 p, (.slice ga gn gc)] [.int .i64 p, (.slice ha hn hk)] [.int .i64 0, .slice none 0 0, .int .i64 0, .slice none 0 0] 30 30 60
  obtain ⟨W, hWe, hWs, hW, b0, b1, b2⟩ := HB3.out
  have B0 : Hid (Below W.heap.size W (((w.alloc (.cells #[.int .i64 p, (.slice ga gn gc)] 30)).alloc (.cells #[.int .i64 p, (.slice ha hn hk)] 30)).alloc (.cells #[.int .i64 0, .slice none 0 0, .int .i64 0, .slice none 0 0] 60))) := Lib.hid (by rw [hWe]; exact Below.refl _ _)
  have HWS := Lib.hid hWs
  have BG := Lib.hid b0
  have BH := Lib.hid b1
  have BO := Lib.hid b2
  have HG := Lib.hid (show ∀ w', Below W.heap.size W w' → Ints w' (.slice ga gn gc) g from fun w' hb => (hg.below hW).below hb)
  have HH := Lib.hid (show ∀ w', Below W.heap.size W w' → Ints w' (.slice ha hn hk) h from fun w' hb => (hh.below hW).below hb)
  have HT := Lib.hid (show ∀ w', Below W.heap.size W w' → Ints w' tv tell from fun w' hb => (ht.below hW).below hb)
  have CT := Lib.hid ct
  have HSG := Lib.hid hs
  have HSH := Lib.hid hs'
  have FIN : Hid (∀ w', Below W.heap.size W w' → Below w.heap.size w w') := Lib.hid fun w' hb => hW.trans (hb.mono hW.size)
  clear HB3 hWe hWs hW b0 b1 b2 hg hh ht hs hs' ct
  have cg0 := (BG.out.on B0.out).cell 0
  have cg1 := (BG.out.on B0.out).cell 1
  have ch0 := (BH.out.on B0.out).cell 0
  have ch1 := (BH.out.on B0.out).cell 1
  simp at cg0 cg1 ch0 ch1
  go_enter Try.func59, Try.ntmps59
  go_wp2_with fail
  refine (itwo_is kb (HG.out _ B0.out) (HH.out _ B0.out) HSG.out HSH.out).mono ?_
  rintro e w1 ⟨rfl, hb⟩
  have B1 := Lib.hid (Below.on B0.out hb)
  clear hb
  clear cg0 cg1 ch0 ch1
  go_wp2_with fail
  refine (iask_is ki).mono ?_
  rintro e wx ⟨rfl, rfl⟩
  have cg0 := (BG.out.on B1.out).cell 0
  simp at cg0
  go_wp2_with fail
  refine (iod_is ko (HT.out _ B1.out) CT.out).mono ?_
  rintro e w3 ⟨rfl, hb⟩
  have B3 := Lib.hid (Below.on B1.out hb)
  clear hb
  clear cg0
  have cg0 := (BG.out.on B3.out).cell 0
  have cg1 := (BG.out.on B3.out).cell 1
  have ch0 := (BH.out.on B3.out).cell 0
  have ch1 := (BH.out.on B3.out).cell 1
  simp at cg0 cg1 ch0 ch1
  have d0 := (BH.out.on (Below.on B3.out (below_grow w3 (.cells #[.int .i64 p, (.slice ga gn gc)] 30)))).cell 0
  have d1 := (BH.out.on (Below.on B3.out (below_grow w3 (.cells #[.int .i64 p, (.slice ga gn gc)] 30)))).cell 1
  simp only [List.getElem?_cons_zero, List.getElem?_cons_succ] at d0 d1
  have B4 : Hid (Below W.heap.size W (w3.alloc (.cells #[.int .i64 p, (.slice ha hn hk)] 30))) := Lib.hid (Below.on B3.out (below_grow w3 (.cells #[.int .i64 p, (.slice ha hn hk)] 30)))
  go_wp2_with fail
  refine (igm_any p (.slice ha hn hk) tv h tell _ (HH.out _ B4.out) (HT.out _ B4.out) CT.out HSH.out).mono ?_
  rintro e w5 ⟨mv, rfl, om, hb⟩
  rw [HGM.out.2] at om
  rw [HGM.out.1]
  obtain ⟨va, vc, hv⟩ := om.form
  obtain ⟨n, hnn⟩ : ∃ n, (mov tell h).length = n := ⟨_, rfl⟩
  rw [hnn] at hv
  subst hv
  have B5 := Lib.hid (Below.on B4.out hb)
  have OM := Lib.hid om
  have SZ : Hid (W.heap.size ≤ (w3.alloc (.cells #[.int .i64 p, (.slice ha hn hk)] 30)).heap.size ∧ W.heap.size ≤ w5.heap.size) := Lib.hid ⟨B4.out.size, B5.out.size⟩
  clear cg0 cg1 ch0 ch1
  clear d0 d1
  clear hb om hnn
  go_wp2_with fail
  refine (iclone_any tv tell _ (HT.out _ B5.out) HT3.out).mono ?_
  rintro e w6 ⟨cv, rfl, oc, hb⟩
  have B6 := Lib.hid (Below.on B5.out hb)
  have OM6 := Lib.hid (own_below OM.out hb)
  obtain ⟨ta, tcc, htv⟩ := Own.form oc
  obtain ⟨u, hu⟩ : ∃ u, tell.length = u := ⟨_, rfl⟩
  rw [hu] at htv
  subst htv
  have O3 := Lib.hid oc
  have AP : Hid (∀ k, (Value.slice va n vc).ownBlock = some k → (Value.slice ta u tcc).ownBlock = some k → False) := Lib.hid fun k h1 h2 => by
    have := (OM.out.lt k h1).2; have := (O3.out.lt k h2).1; omega
  have NN : Hid (w.heap.size + 1 + 1 < (w3.alloc (.cells #[.int .i64 p, (.slice ha hn hk)] 30)).heap.size ∧ w.heap.size + 1 + 1 < w5.heap.size ∧ w.heap.size ≤ (w3.alloc (.cells #[.int .i64 p, (.slice ha hn hk)] 30)).heap.size ∧ w.heap.size ≤ w5.heap.size) := Lib.hid (by have := HWS.out; have := SZ.out; omega)
  clear hb oc hu
  have co0 := (BO.out.on B6.out).cell 0
  have co1 := (BO.out.on B6.out).cell 1
  have co2 := (BO.out.on B6.out).cell 2
  have co3 := (BO.out.on B6.out).cell 3
  simp at co0 co1 co2 co3
  have f0 := (BO.out.on B6.out).frozen 0
  have f1 := (BO.out.on B6.out).frozen 1
  have f2 := (BO.out.on B6.out).frozen 2
  have f3 := (BO.out.on B6.out).frozen 3
  have FF := Lib.hid (FIN.out _ B6.out)
  go_wp2
  refine bodyPost_ret (v := .tuple #[.agg #[.int .i64 p, .slice va n vc, .int .i64 ask, .slice ta u tcc], .bool true]) ?_ rfl ?_
  · simp [results, Try.results59, go_sem, co0, co1, co2, co3]
  · unfold MdPost
    rw [HX.out.1, HX.out.2]
    exact ⟨_, _, rfl, own_set4 OM6.out NN.out.1 NN.out.2.2.1, own_set4 O3.out NN.out.2.1 NN.out.2.2.2, AP.out, below_set4 FF.out (by omega)⟩

theorem imd_any (p q ask : Int) (gv hv tv : Value) (g h tell : List Int) (w : World) (hg : Ints w gv g) (hh : Ints w hv h) (ht : Ints w tv tell) (ct : capB tv) (hs : ∀ j, j < g.length → intIn (nth g j)) (hs' : ∀ j, j < h.length → intIn (nth h j)) :
    Calls Try.prog 59 #[.agg #[.int .i64 p, gv], .agg #[.int .i64 q, hv], .int .i64 ask, tv] w (MdPost p g q h ask tell w) := by
  obtain ⟨_, _, rfl, _⟩ := hg.opened
  obtain ⟨_, _, rfl, _⟩ := hh.opened
  cases hb : mdT p g q h ask tell
  · exact imd_no p q ask _ _ _ _ _ _ tv g h tell w hg hh ht ct hs hs' hb
  · obtain rfl := (mdT_true.1 hb).e
    cases ha : (ask == 1)
    · exact imd_0 p ask _ _ _ _ _ _ tv g h tell w hg hh ht ct hs hs' hb ha
    · exact imd_1 p ask _ _ _ _ _ _ tv g h tell w hg hh ht ct hs hs' hb ha
end Go.Proofs.Ytlcegpmhlnilfaa
