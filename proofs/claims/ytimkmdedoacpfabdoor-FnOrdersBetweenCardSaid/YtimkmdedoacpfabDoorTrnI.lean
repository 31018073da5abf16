/- impl: leads, TurnMade, TurnOk. -/
import Derived.Test.YtimkmdedoacpfabDoorGphK
import Derived.Test.YtimkmdedoacpfabDoorTmdS
namespace Go.Proofs.YtimkmdedoacpfabDoor
open Go.RowKit

theorem gmE_few {p : Int} {es o : List Int} : (gmE p es o).length ≤ 50 := by
  cases h : gmB p es o
  · rw [(gm_no h).2]; simp
  · rw [(gm_yes h).2]
    obtain ⟨hg, ho⟩ := gmB_true.1 h
    rw [mov_len ho hg]; exact hg.few
/-- leads. -/
def ldB (p : Int) (g : List Int) (q : Int) (h o : List Int) : Bool := gkB q h && (decide (gmP p g o = q) && sameB (gmE p g o) h)
theorem ldB_is (p q : Int) (g h o : List Int) : ldB p g q h o = (btB p g q h && (odB o p && leads g h o)) := by
  unfold ldB btB leads
  cases k2 : gkB q h
  · simp
  · have hq := (gkB_true.1 k2).p1
    cases k : gmB p g o
    · rw [(gm_no k).1]
      have : decide ((0 : Int) = q) = false := by simp; omega
      rw [this]
      unfold gmB at k
      cases k1 : gkB p g
      · simp
      · rw [k1] at k; simp at k; simp [k]
    · rw [(gm_yes k).1, (gm_yes k).2]
      obtain ⟨a, b⟩ := gmB_true.1 k
      rw [gkB_true.2 a, odB_true.2 b]; simp

set_option maxRecDepth 20000 in
set_option maxHeartbeats 3200000 in
theorem ild_sl (p q : Int) (ga ha : Option Addr) (gn gc hn hk : Nat) (ov : Value) (g h o : List Int) (w : World) (hg : Ints w (.slice ga gn gc) g) (hh : Ints w (.slice ha hn hk) h) (ho : Ints w ov o) (co : capB ov) (hs : ∀ j, j < g.length → intIn (nth g j)) (hs' : ∀ j, j < h.length → intIn (nth h j)) :
    Calls Tryd.prog 82 #[.agg #[.int .i64 p, (.slice ga gn gc)], .agg #[.int .i64 q, (.slice ha hn hk)], ov] w fun e w' => e = .returned (.bool (ldB p g q h o)) ∧ Below w.heap.size w w' := by
  obtain ⟨W, hWe⟩ : ∃ W, W = (w.alloc (.cells #[.int .i64 p, (.slice ga gn gc)] 25)).alloc (.cells #[.int .i64 q, (.slice ha hn hk)] 25) := ⟨_, rfl⟩
  obtain ⟨b0, b1, hW⟩ := boxes2 (w := w) (P := [.int .i64 p, (.slice ga gn gc)]) (R := [.int .i64 q, (.slice ha hn hk)]) (T1 := 25) (T2 := 25) (w1 := W) (by rw [hWe]; exact Below.refl _ _)
  have BD0 : Hid (Below W.heap.size W (((w.alloc (.cells #[.int .i64 p, (.slice ga gn gc)] 25)).alloc (.cells #[.int .i64 q, (.slice ha hn hk)] 25)).drew)) := Lib.hid (by rw [hWe]; exact (Below.refl _ _).drew)
  have BM0 : Hid (My W (gmE p g o) none (((w.alloc (.cells #[.int .i64 p, (.slice ga gn gc)] 25)).alloc (.cells #[.int .i64 q, (.slice ha hn hk)] 25)).drew)) := Lib.hid ⟨BD0.out, fun v e => by cases e⟩
  have BG := Lib.hid b0
  have BH := Lib.hid b1
  have HG := Lib.hid (show ∀ w', Below W.heap.size W w' → Ints w' (.slice ga gn gc) g from fun w' hb => (hg.below hW).below hb)
  have HH := Lib.hid (show ∀ w', Below W.heap.size W w' → Ints w' (.slice ha hn hk) h from fun w' hb => (hh.below hW).below hb)
  have HO := Lib.hid (show ∀ w', Below W.heap.size W w' → Ints w' ov o from fun w' hb => (ho.below hW).below hb)
  have CO := Lib.hid co
  have HSG := Lib.hid hs
  have HSH := Lib.hid hs'
  have HFE : Hid ((gmE p g o).length ≤ maxLen) := Lib.hid (Nat.le_trans gmE_few (by unfold maxLen; omega))
  have FIN : Hid (∀ w', Below W.heap.size W w' → Below w.heap.size w w') := Lib.hid fun w' hb => hW.trans (hb.mono hW.size)
  clear hWe hW b0 b1 hg hh ho hs hs' co
  cases k2 : gkB q h
  · have HX := Lib.hid (show ldB p g q h o = false by simp [ldB, k2])
    clear BM0
    go_enter Tryd.func82, Tryd.ntmps82
    go_wp2_with fail
    refine wp_region_cls (C := fun w' => Hid (Below W.heap.size W w')) (by kernel_rfl) (by kernel_rfl) BD0 ?_
    go_big_quiet_want
    go_big_quiet_op
    refine ⟨.agg #[.int .i64 q, (.slice ha hn hk)], fun w' hw' => ?_, ?_⟩
    · have q := BH.out.on hw'.out
      have q0 := q.cell 0
      have q1 := q.cell 1
      simp at q0 q1
      simp [go_sem, q0, q1]
    go_big_quiet_on
    go_big_quiet_want; go_big_quiet_op
    go_big_quiet_call ((intro hw; exact (igk_is k2 (HH.out _ hw.out) HSH.out).mono fun _ _ ⟨he, hb⟩ => ⟨he, Lib.hid (Below.on hw.out hb)⟩))
    go_big_quiet_want; go_big_quiet_op; first | go_big_quiet_on | (refine ⟨_, fun _ _ => rfl, ?_⟩; go_big_quiet_on)
    go_big_quiet_skip
    go_big_quiet_skip
    go_big_quiet_skip
    go_big_quiet_skip
    go_big_quiet_skip
    go_big_quiet_want; go_big_quiet_op; first | go_big_quiet_on | (refine ⟨_, fun _ _ => rfl, ?_⟩; go_big_quiet_on)
    try (go_big_quiet_want; go_big_quiet_op; first | go_big_quiet_on | (refine ⟨_, fun _ _ => rfl, ?_⟩; go_big_quiet_on))
    refine wpQuiet_nil ?_
    intro w3 hw3
    have B3 := Lib.hid (FIN.out _ hw3.out)
    clear hw3 BD0
    go_wp2
    go_ret
    exact ⟨by rw [HX.out]; rfl, B3.out⟩
  · have HX := Lib.hid (show ldB p g q h o = (decide (gmP p g o = q) && sameB (gmE p g o) h) by simp [ldB, k2])
    clear BD0
    go_enter Tryd.func82, Tryd.ntmps82
    go_wp2_with fail
    apply wp_region_H (Z := Option Value) (S := fun k => k == 5 || k == 7 || k == 8) (C := fun z w' => Hid (My W (gmE p g o) z w')) [0, 1, 2, 3, 4, 6] none
    · kernel_rfl
    · kernel_rfl
    · kernel_rfl
    · exact ⟨rfl, rfl, rfl, rfl, rfl, rfl, trivial⟩
    · rfl
    · decide
    · exact BM0
    · intro zz
      dsimp only [pickL, nthO]
      go_big_quiet_want
      go_big_quiet_op
      refine ⟨.agg #[.int .i64 q, (.slice ha hn hk)], fun w' hw' => ?_, ?_⟩
      · have q := BH.out.on hw'.out.1
        have q0 := q.cell 0
        have q1 := q.cell 1
        simp at q0 q1
        simp [go_sem, q0, q1]
      go_big_quiet_on
      go_big_quiet_want; go_big_quiet_op
      go_big_quiet_call ((intro hw; exact (igk_is k2 (HH.out _ hw.out.1) HSH.out).mono fun _ _ ⟨he, hb⟩ => ⟨he, Lib.hid ⟨Below.on hw.out.1 hb, fun v e => hw.out.2 v e |>.below hb⟩⟩))
      go_big_quiet_want; go_big_quiet_op; first | go_big_quiet_on | (refine ⟨_, fun _ _ => rfl, ?_⟩; go_big_quiet_on)
      go_big_quiet_want
      go_big_quiet_op
      refine ⟨.agg #[.int .i64 p, (.slice ga gn gc)], fun w' hw' => ?_, ?_⟩
      · have q := BG.out.on hw'.out.1
        have q0 := q.cell 0
        have q1 := q.cell 1
        simp at q0 q1
        simp [go_sem, q0, q1]
      go_big_quiet_on
      go_big_quiet_want; go_big_quiet_op; first | go_big_quiet_on | (refine ⟨_, fun _ _ => rfl, ?_⟩; go_big_quiet_on)
      go_big_quiet_want
      go_big_quiet_op
      refine ⟨.agg #[.int .i64 q, (.slice ha hn hk)], fun w' hw' => ?_, ?_⟩
      · have q := BH.out.on hw'.out.1
        have q0 := q.cell 0
        have q1 := q.cell 1
        simp at q0 q1
        simp [go_sem, q0, q1]
      go_big_quiet_on
      exact wpQuiet_nil rfl
    · refine wpAnyH_call (i := 5) (d := some 12) 49 #[.agg #[.int .i64 p, (.slice ga gn gc)], ov] rfl (by kernel_rfl) rfl rfl (by kernel_rfl) (fun _ => by kernel_rfl) fun wa hc => ?_
      refine (igm_any p (.slice ga gn gc) ov g o wa (HG.out _ hc.out.1) (HO.out _ hc.out.1) CO.out HSG.out).mono ?_
      rintro e wc ⟨mv, rfl, om, hb⟩
      refine ⟨_, rfl, some mv, Lib.hid ⟨Below.on hc.out.1 hb, fun v e => by cases e; exact Ints.of_own om HFE.out⟩, ?_⟩
      clear hc om hb
      refine wpAnyH_call (i := 7) (d := some 14) 95 #[.agg #[.int .i64 (gmP p g o), mv], .agg #[.int .i64 q, (.slice ha hn hk)]] rfl (by kernel_rfl) rfl rfl (by kernel_rfl) (fun _ => by kernel_rfl) fun wd hc => ?_
      refine (isg_any (gmP p g o) q mv (.slice ha hn hk) (gmE p g o) h wd (hc.out.2 mv rfl) (HH.out _ hc.out.1)).mono ?_
      rintro e we ⟨rfl, hb⟩
      refine ⟨_, rfl, none, Lib.hid ⟨Below.on hc.out.1 hb, fun v e => by cases e⟩, ?_⟩
      clear hc hb
      refine wpAnyH_special (i := 8) (d := some 15) rfl (by kernel_rfl) rfl rfl (by kernel_rfl) fun wa hc => ⟨.bool (ldB p g q h o), wa, none, .inl (by rw [HX.out]; first | kernel_rfl | simp [go_sem]), hc, ?_⟩
      clear hc
      refine wpAnyH_assign (i := 9) (d := some 6) _ rfl (by kernel_rfl) rfl rfl (by kernel_rfl) rfl ?_
      refine ⟨by kernel_rfl, fun w3 hw3 => ?_⟩
      simp only [Act.put, List.setIfInBounds_toArray, List.set_cons_succ, List.set_cons_zero]
      have B3 := Lib.hid (FIN.out _ hw3.out.1)
      clear hw3 BM0
      go_wp2
      go_ret
      exact ⟨rfl, B3.out⟩
theorem ild_is {p q : Int} {gv hv ov : Value} {g h o : List Int} {w : World} {r : Bool} (hr : ldB p g q h o = r) (hg : Ints w gv g) (hh : Ints w hv h) (ho : Ints w ov o) (co : capB ov) (hs : ∀ j, j < g.length → intIn (nth g j)) (hs' : ∀ j, j < h.length → intIn (nth h j)) :
    Calls Tryd.prog 82 #[.agg #[.int .i64 p, gv], .agg #[.int .i64 q, hv], ov] w fun e w' => e = .returned (.bool r) ∧ Below w.heap.size w w' := by
  rw [← hr]
  obtain ⟨_, _, rfl, _⟩ := hg.opened
  obtain ⟨_, _, rfl, _⟩ := hh.opened
  exact ild_sl p q _ _ _ _ _ _ ov g h o w hg hh ho co hs hs'

end Go.Proofs.YtimkmdedoacpfabDoor
