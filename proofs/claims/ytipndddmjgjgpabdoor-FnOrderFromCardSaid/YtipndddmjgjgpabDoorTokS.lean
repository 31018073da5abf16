/- spec: TurnOk. -/
import Derived.Test.YtipndddmjgjgpabDoorBtwS
import Derived.Test.YtipndddmjgjgpabDoorBReg
import Derived.Test.YtipndddmjgjgpabDoorBGr
namespace Go.Proofs.YtipndddmjgjgpabDoor
open Go.RowKit

theorem boxes4 {w : World} (P R O Q : List Value) (T1 T2 T3 T4 : TypeId) : Hid (∃ W : World, W = (((w.alloc (.cells P.toArray T1)).alloc (.cells R.toArray T2)).alloc (.cells O.toArray T3)).alloc (.cells Q.toArray T4) ∧
    Below w.heap.size w W ∧ Box W w.heap.size P ∧ Box W (w.heap.size + 1) R ∧ Box W (w.heap.size + 1 + 1) O ∧ Box W (w.heap.size + 1 + 1 + 1) Q) := by
  have h1 := Box.made w P T1
  have h2 := Box.made (w.alloc (.cells P.toArray T1)) R T2
  have h3 := Box.made ((w.alloc (.cells P.toArray T1)).alloc (.cells R.toArray T2)) O T3
  have h4 := Box.made (((w.alloc (.cells P.toArray T1)).alloc (.cells R.toArray T2)).alloc (.cells O.toArray T3)) Q T4
  rw [show (w.alloc (.cells P.toArray T1)).heap.size = w.heap.size + 1 by simp] at h2
  rw [show ((w.alloc (.cells P.toArray T1)).alloc (.cells R.toArray T2)).heap.size = w.heap.size + 1 + 1 by simp] at h3
  rw [show (((w.alloc (.cells P.toArray T1)).alloc (.cells R.toArray T2)).alloc (.cells O.toArray T3)).heap.size = w.heap.size + 1 + 1 + 1 by simp] at h4
  exact Lib.hid ⟨_, rfl, (below_grow w _).trans (((below_grow _ _).mono (by simp)).trans (((below_grow _ _).mono (by simp; omega)).trans ((below_grow _ _).mono (by simp; omega)))), ((h1.alloc _).alloc _).alloc _, (h2.alloc _).alloc _, h3.alloc _, h4⟩
/-- A world behind W, and (when it is made) a list of numbers in it. -/
def My (W : World) (M : List Int) (z : Option Value) (w' : World) : Prop := Below W.heap.size W w' ∧ ∀ v, z = some v → Ints w' v M
theorem few_of {w : World} {v : Value} {xs : List Int} (h : Ints w v xs) : xs.length ≤ maxLen := by
  rcases h with ⟨_, rfl⟩ | ⟨_, _, _, hl, _⟩
  · simp
  · exact hl
theorem tkT_no {p q sp ask : Int} {g h se tell : List Int} (k : mdT p g q h ask tell = false) : tkT p g q h sp se ask tell = false := by simp [tkT, k]

set_option maxRecDepth 20000 in
set_option maxHeartbeats 1600000 in
theorem strn_0 (p q sp ask : Int) (ga ha sa ta : Option Addr) (gn gc hn hk sn sc tn tc : Nat) (g h se tell : List Int) (w : World) (hg : Ints w (.slice ga gn gc) g) (hh : Ints w (.slice ha hn hk) h) (hse : Ints w (.slice sa sn sc) se) (ht : Ints w (.slice ta tn tc) tell)
    (hp : intIn p) (hq : intIn q) (hs : ∀ j, j < g.length → intIn (nth g j)) (hs' : ∀ j, j < h.length → intIn (nth h j)) (hask : (ask == 1) = false) :
    Calls Tryd.prog 38 #[.agg #[.int .i64 p, (.slice ga gn gc)], .agg #[.int .i64 q, (.slice ha hn hk)], .agg #[.int .i64 sp, (.slice sa sn sc), .int .i64 ask, (.slice ta tn tc)]] w fun e w' => e = .returned (.bool (tkT p g q h sp se ask tell)) ∧ Below w.heap.size w w' := by
  have HB4 := boxes4 (w := w) [.int .i64 p, (.slice ga gn gc)] [.int .i64 q, (.slice ha hn hk)] [.int .i64 sp, (.slice sa sn sc), .int .i64 ask, (.slice ta tn tc)] [.int .i64 p, (.slice ga gn gc)] 25 25 50 25
  obtain ⟨W, hWe, hW, b0, b1, b2, b3⟩ := HB4.out
  have HBD0 : Hid (Below W.heap.size W (((((w.alloc (.cells #[.int .i64 p, (.slice ga gn gc)] 25)).alloc (.cells #[.int .i64 q, (.slice ha hn hk)] 25)).alloc (.cells #[.int .i64 sp, (.slice sa sn sc), .int .i64 ask, (.slice ta tn tc)] 50)).alloc (.cells #[.int .i64 p, (.slice ga gn gc)] 25)).drew)) := Lib.hid (by rw [hWe]; exact (Below.refl _ _).drew)
  have HW := Lib.hid hW
  have BG := Lib.hid b0
  have BH := Lib.hid b1
  have BT := Lib.hid b2
  have BF := Lib.hid b3
  have HG := Lib.hid (show ∀ w', Below W.heap.size W w' → Ints w' (.slice ga gn gc) g from fun w' hb => (hg.below hW).below hb)
  have HH := Lib.hid (show ∀ w', Below W.heap.size W w' → Ints w' (.slice ha hn hk) h from fun w' hb => (hh.below hW).below hb)
  have HS := Lib.hid (show ∀ w', Below W.heap.size W w' → Ints w' (.slice sa sn sc) se from fun w' hb => (hse.below hW).below hb)
  have HT := Lib.hid (show ∀ w', Below W.heap.size W w' → Ints w' (.slice ta tn tc) tell from fun w' hb => (ht.below hW).below hb)
  have HFG := Lib.hid (few_of hg)
  have HFH := Lib.hid (few_of hh)
  have HSG := Lib.hid hs
  have HSH := Lib.hid hs'
  have HP := Lib.hid hp
  have HQ := Lib.hid hq
  have FIN : Hid (∀ w', Below W.heap.size W w' → Below w.heap.size w w') := Lib.hid fun w' hb => hW.trans (hb.mono hW.size)
  clear HB4 hWe hW b0 b1 b2 b3 hg hh hse ht hs hs' hp hq
  cases hk1 : gkB p g
  · have HX := Lib.hid (tkT_no (sp := sp) (se := se) (show mdT p g q h ask tell = false by simp [mdT, btB, hk1]))
    go_enter Tryd.func38, Tryd.ntmps38
    go_wp2_with fail
    refine wp_region_cls (C := fun w' => Hid (Below W.heap.size W w')) (by kernel_rfl) (by kernel_rfl) HBD0 ?_
    go_big_quiet_want
    go_big_quiet_op
    refine ⟨.agg #[.int .i64 p, (.slice ga gn gc)], fun w' hw' => ?_, ?_⟩
    · have q := BG.out.on hw'.out
      have q0 := q.cell 0
      have q1 := q.cell 1
      simp at q0 q1
      simp [go_sem, q0, q1]
    go_big_quiet_on
    go_big_quiet_want; go_big_quiet_op
    go_big_quiet_call ((intro hw; exact (sgk_is hk1 (HG.out _ hw.out) HP.out HSG.out).mono fun _ _ ⟨he, hb⟩ => ⟨he, Lib.hid (Below.on hw.out hb)⟩))
    go_big_quiet_want; go_big_quiet_op; first | go_big_quiet_on | (refine ⟨_, fun _ _ => rfl, ?_⟩; go_big_quiet_on)
    go_big_quiet_skip
    go_big_quiet_skip
    go_big_quiet_want; go_big_quiet_op; first | go_big_quiet_on | (refine ⟨_, fun _ _ => rfl, ?_⟩; go_big_quiet_on)
    go_big_quiet_want; go_big_quiet_op; first | go_big_quiet_on | (refine ⟨_, fun _ _ => rfl, ?_⟩; go_big_quiet_on)
    go_big_quiet_skip
    go_big_quiet_skip
    go_big_quiet_skip
    go_big_quiet_skip
    go_big_quiet_skip
    go_big_quiet_want; go_big_quiet_op; first | go_big_quiet_on | (refine ⟨_, fun _ _ => rfl, ?_⟩; go_big_quiet_on)
    go_big_quiet_want; go_big_quiet_op; first | go_big_quiet_on | (refine ⟨_, fun _ _ => rfl, ?_⟩; go_big_quiet_on)
    go_big_quiet_skip
    go_big_quiet_skip
    go_big_quiet_skip
    go_big_quiet_want; go_big_quiet_op; first | go_big_quiet_on | (refine ⟨_, fun _ _ => rfl, ?_⟩; go_big_quiet_on)
    go_big_quiet_want; go_big_quiet_op; first | go_big_quiet_on | (refine ⟨_, fun _ _ => rfl, ?_⟩; go_big_quiet_on)
    go_big_quiet_skip
    go_big_quiet_skip
    go_big_quiet_skip
    go_big_quiet_skip
    go_big_quiet_skip
    go_big_quiet_want; go_big_quiet_op; first | go_big_quiet_on | (refine ⟨_, fun _ _ => rfl, ?_⟩; go_big_quiet_on)
    go_big_quiet_want; go_big_quiet_op; first | go_big_quiet_on | (refine ⟨_, fun _ _ => rfl, ?_⟩; go_big_quiet_on)
    go_big_quiet_skip
    go_big_quiet_skip
    go_big_quiet_skip
    go_big_quiet_skip
    go_big_quiet_skip
    go_big_quiet_skip
    go_big_quiet_skip
    go_big_quiet_want; go_big_quiet_op; first | go_big_quiet_on | (refine ⟨_, fun _ _ => rfl, ?_⟩; go_big_quiet_on)
    go_big_quiet_want; go_big_quiet_op; first | go_big_quiet_on | (refine ⟨_, fun _ _ => rfl, ?_⟩; go_big_quiet_on)
    refine wpQuiet_nil ?_
    intro w3 hw3
    have B3 := Lib.hid (FIN.out _ hw3.out)
    clear hw3 HBD0
    go_wp2
    go_ret
    exact ⟨by rw [HX.out]; rfl, B3.out⟩
  cases hk2 : gkB q h
  · have HX := Lib.hid (tkT_no (sp := sp) (se := se) (show mdT p g q h ask tell = false by simp [mdT, btB, hk2]))
    go_enter Tryd.func38, Tryd.ntmps38
    go_wp2_with fail
    refine wp_region_cls (C := fun w' => Hid (Below W.heap.size W w')) (by kernel_rfl) (by kernel_rfl) HBD0 ?_
    go_big_quiet_want
    go_big_quiet_op
    refine ⟨.agg #[.int .i64 p, (.slice ga gn gc)], fun w' hw' => ?_, ?_⟩
    · have q := BG.out.on hw'.out
      have q0 := q.cell 0
      have q1 := q.cell 1
      simp at q0 q1
      simp [go_sem, q0, q1]
    go_big_quiet_on
    go_big_quiet_want; go_big_quiet_op
    go_big_quiet_call ((intro hw; exact (sgk_is hk1 (HG.out _ hw.out) HP.out HSG.out).mono fun _ _ ⟨he, hb⟩ => ⟨he, Lib.hid (Below.on hw.out hb)⟩))
    go_big_quiet_want; go_big_quiet_op; first | go_big_quiet_on | (refine ⟨_, fun _ _ => rfl, ?_⟩; go_big_quiet_on)
    go_big_quiet_want
    go_big_quiet_op
    refine ⟨.agg #[.int .i64 q, (.slice ha hn hk)], fun w' hw' => ?_, ?_⟩
    · have q := BH.out.on hw'.out
      have q0 := q.cell 0
      have q1 := q.cell 1
      simp at q0 q1
      simp [go_sem, q0, q1]
    go_big_quiet_on
    go_big_quiet_want; go_big_quiet_op
    go_big_quiet_call ((intro hw; exact (sgk_is hk2 (HH.out _ hw.out) HQ.out HSH.out).mono fun _ _ ⟨he, hb⟩ => ⟨he, Lib.hid (Below.on hw.out hb)⟩))
    go_big_quiet_want; go_big_quiet_op; first | go_big_quiet_on | (refine ⟨_, fun _ _ => rfl, ?_⟩; go_big_quiet_on)
    go_big_quiet_want; go_big_quiet_op; first | go_big_quiet_on | (refine ⟨_, fun _ _ => rfl, ?_⟩; go_big_quiet_on)
    go_big_quiet_skip
    go_big_quiet_skip
    go_big_quiet_skip
    go_big_quiet_skip
    go_big_quiet_skip
    go_big_quiet_want; go_big_quiet_op; first | go_big_quiet_on | (refine ⟨_, fun _ _ => rfl, ?_⟩; go_big_quiet_on)
    go_big_quiet_want; go_big_quiet_op; first | go_big_quiet_on | (refine ⟨_, fun _ _ => rfl, ?_⟩; go_big_quiet_on)
    go_big_quiet_skip
    go_big_quiet_skip
    go_big_quiet_skip
    go_big_quiet_want; go_big_quiet_op; first | go_big_quiet_on | (refine ⟨_, fun _ _ => rfl, ?_⟩; go_big_quiet_on)
    go_big_quiet_want; go_big_quiet_op; first | go_big_quiet_on | (refine ⟨_, fun _ _ => rfl, ?_⟩; go_big_quiet_on)
    go_big_quiet_skip
    go_big_quiet_skip
    go_big_quiet_skip
    go_big_quiet_skip
    go_big_quiet_skip
    go_big_quiet_want; go_big_quiet_op; first | go_big_quiet_on | (refine ⟨_, fun _ _ => rfl, ?_⟩; go_big_quiet_on)
    go_big_quiet_want; go_big_quiet_op; first | go_big_quiet_on | (refine ⟨_, fun _ _ => rfl, ?_⟩; go_big_quiet_on)
    go_big_quiet_skip
    go_big_quiet_skip
    go_big_quiet_skip
    go_big_quiet_skip
    go_big_quiet_skip
    go_big_quiet_skip
    go_big_quiet_skip
    go_big_quiet_want; go_big_quiet_op; first | go_big_quiet_on | (refine ⟨_, fun _ _ => rfl, ?_⟩; go_big_quiet_on)
    go_big_quiet_want; go_big_quiet_op; first | go_big_quiet_on | (refine ⟨_, fun _ _ => rfl, ?_⟩; go_big_quiet_on)
    refine wpQuiet_nil ?_
    intro w3 hw3
    have B3 := Lib.hid (FIN.out _ hw3.out)
    clear hw3 HBD0
    go_wp2
    go_ret
    exact ⟨by rw [HX.out]; rfl, B3.out⟩
  by_cases hpq : p = q
  rotate_left
  · have HX := Lib.hid (tkT_no (sp := sp) (se := se) (show mdT p g q h ask tell = false by simp [mdT, btB, hpq]))
    go_enter Tryd.func38, Tryd.ntmps38
    go_wp2_with fail
    refine wp_region_cls (C := fun w' => Hid (Below W.heap.size W w')) (by kernel_rfl) (by kernel_rfl) HBD0 ?_
    go_big_quiet_want
    go_big_quiet_op
    refine ⟨.agg #[.int .i64 p, (.slice ga gn gc)], fun w' hw' => ?_, ?_⟩
    · have q := BG.out.on hw'.out
      have q0 := q.cell 0
      have q1 := q.cell 1
      simp at q0 q1
      simp [go_sem, q0, q1]
    go_big_quiet_on
    go_big_quiet_want; go_big_quiet_op
    go_big_quiet_call ((intro hw; exact (sgk_is hk1 (HG.out _ hw.out) HP.out HSG.out).mono fun _ _ ⟨he, hb⟩ => ⟨he, Lib.hid (Below.on hw.out hb)⟩))
    go_big_quiet_want; go_big_quiet_op; first | go_big_quiet_on | (refine ⟨_, fun _ _ => rfl, ?_⟩; go_big_quiet_on)
    go_big_quiet_want
    go_big_quiet_op
    refine ⟨.agg #[.int .i64 q, (.slice ha hn hk)], fun w' hw' => ?_, ?_⟩
    · have q := BH.out.on hw'.out
      have q0 := q.cell 0
      have q1 := q.cell 1
      simp at q0 q1
      simp [go_sem, q0, q1]
    go_big_quiet_on
    go_big_quiet_want; go_big_quiet_op
    go_big_quiet_call ((intro hw; exact (sgk_is hk2 (HH.out _ hw.out) HQ.out HSH.out).mono fun _ _ ⟨he, hb⟩ => ⟨he, Lib.hid (Below.on hw.out hb)⟩))
    go_big_quiet_want; go_big_quiet_op; first | go_big_quiet_on | (refine ⟨_, fun _ _ => rfl, ?_⟩; go_big_quiet_on)
    go_big_quiet_want; go_big_quiet_op; first | go_big_quiet_on | (refine ⟨_, fun _ _ => rfl, ?_⟩; go_big_quiet_on)
    go_big_quiet_want; go_big_quiet_op; first | go_big_quiet_on | (refine ⟨_, fun _ _ => rfl, ?_⟩; go_big_quiet_on)
    go_big_quiet_want
    go_big_quiet_op
    refine ⟨.int .i64 p, fun w' hw' => ?_, ?_⟩
    · have q := BG.out.on hw'.out
      have q0 := q.cell 0
      simp at q0
      simp [go_sem, q0]
    go_big_quiet_on
    go_big_quiet_want; go_big_quiet_op; first | go_big_quiet_on | (refine ⟨_, fun _ _ => rfl, ?_⟩; go_big_quiet_on)
    go_big_quiet_want
    go_big_quiet_op
    refine ⟨.int .i64 q, fun w' hw' => ?_, ?_⟩
    · have q := BH.out.on hw'.out
      have q0 := q.cell 0
      simp at q0
      simp [go_sem, q0]
    go_big_quiet_on
    go_big_quiet_want
    go_big_quiet_op
    refine ⟨.bool false, fun w' hw' => ?_, ?_⟩
    · simp [go_sem, hpq]
    go_big_quiet_on
    go_big_quiet_want; go_big_quiet_op; first | go_big_quiet_on | (refine ⟨_, fun _ _ => rfl, ?_⟩; go_big_quiet_on)
    go_big_quiet_want; go_big_quiet_op; first | go_big_quiet_on | (refine ⟨_, fun _ _ => rfl, ?_⟩; go_big_quiet_on)
    go_big_quiet_skip
    go_big_quiet_skip
    go_big_quiet_skip
    go_big_quiet_want; go_big_quiet_op; first | go_big_quiet_on | (refine ⟨_, fun _ _ => rfl, ?_⟩; go_big_quiet_on)
    go_big_quiet_want; go_big_quiet_op; first | go_big_quiet_on | (refine ⟨_, fun _ _ => rfl, ?_⟩; go_big_quiet_on)
    go_big_quiet_skip
    go_big_quiet_skip
    go_big_quiet_skip
    go_big_quiet_skip
    go_big_quiet_skip
    go_big_quiet_want; go_big_quiet_op; first | go_big_quiet_on | (refine ⟨_, fun _ _ => rfl, ?_⟩; go_big_quiet_on)
    go_big_quiet_want; go_big_quiet_op; first | go_big_quiet_on | (refine ⟨_, fun _ _ => rfl, ?_⟩; go_big_quiet_on)
    go_big_quiet_skip
    go_big_quiet_skip
    go_big_quiet_skip
    go_big_quiet_skip
    go_big_quiet_skip
    go_big_quiet_skip
    go_big_quiet_skip
    go_big_quiet_want; go_big_quiet_op; first | go_big_quiet_on | (refine ⟨_, fun _ _ => rfl, ?_⟩; go_big_quiet_on)
    go_big_quiet_want; go_big_quiet_op; first | go_big_quiet_on | (refine ⟨_, fun _ _ => rfl, ?_⟩; go_big_quiet_on)
    refine wpQuiet_nil ?_
    intro w3 hw3
    have B3 := Lib.hid (FIN.out _ hw3.out)
    clear hw3 HBD0
    go_wp2
    go_ret
    exact ⟨by rw [HX.out]; rfl, B3.out⟩
  subst hpq
  cases hin : (decide (0 ≤ ask) && decide (ask ≤ 1))
  · have HX := Lib.hid (tkT_no (sp := sp) (se := se) (show mdT p g p h ask tell = false by simp only [mdT, hin]; simp))
    go_enter Tryd.func38, Tryd.ntmps38
    go_wp2_with fail
    refine wp_region_cls (C := fun w' => Hid (Below W.heap.size W w')) (by kernel_rfl) (by kernel_rfl) HBD0 ?_
    go_big_quiet_want
    go_big_quiet_op
    refine ⟨.agg #[.int .i64 p, (.slice ga gn gc)], fun w' hw' => ?_, ?_⟩
    · have q := BG.out.on hw'.out
      have q0 := q.cell 0
      have q1 := q.cell 1
      simp at q0 q1
      simp [go_sem, q0, q1]
    go_big_quiet_on
    go_big_quiet_want; go_big_quiet_op
    go_big_quiet_call ((intro hw; exact (sgk_is hk1 (HG.out _ hw.out) HP.out HSG.out).mono fun _ _ ⟨he, hb⟩ => ⟨he, Lib.hid (Below.on hw.out hb)⟩))
    go_big_quiet_want; go_big_quiet_op; first | go_big_quiet_on | (refine ⟨_, fun _ _ => rfl, ?_⟩; go_big_quiet_on)
    go_big_quiet_want
    go_big_quiet_op
    refine ⟨.agg #[.int .i64 p, (.slice ha hn hk)], fun w' hw' => ?_, ?_⟩
    · have q := BH.out.on hw'.out
      have q0 := q.cell 0
      have q1 := q.cell 1
      simp at q0 q1
      simp [go_sem, q0, q1]
    go_big_quiet_on
    go_big_quiet_want; go_big_quiet_op
    go_big_quiet_call ((intro hw; exact (sgk_is hk2 (HH.out _ hw.out) HQ.out HSH.out).mono fun _ _ ⟨he, hb⟩ => ⟨he, Lib.hid (Below.on hw.out hb)⟩))
    go_big_quiet_want; go_big_quiet_op; first | go_big_quiet_on | (refine ⟨_, fun _ _ => rfl, ?_⟩; go_big_quiet_on)
    go_big_quiet_want; go_big_quiet_op; first | go_big_quiet_on | (refine ⟨_, fun _ _ => rfl, ?_⟩; go_big_quiet_on)
    go_big_quiet_want; go_big_quiet_op; first | go_big_quiet_on | (refine ⟨_, fun _ _ => rfl, ?_⟩; go_big_quiet_on)
    go_big_quiet_want
    go_big_quiet_op
    refine ⟨.int .i64 p, fun w' hw' => ?_, ?_⟩
    · have q := BG.out.on hw'.out
      have q0 := q.cell 0
      simp at q0
      simp [go_sem, q0]
    go_big_quiet_on
    go_big_quiet_want; go_big_quiet_op; first | go_big_quiet_on | (refine ⟨_, fun _ _ => rfl, ?_⟩; go_big_quiet_on)
    go_big_quiet_want
    go_big_quiet_op
    refine ⟨.int .i64 p, fun w' hw' => ?_, ?_⟩
    · have q := BH.out.on hw'.out
      have q0 := q.cell 0
      simp at q0
      simp [go_sem, q0]
    go_big_quiet_on
    go_big_quiet_want
    go_big_quiet_op
    refine ⟨.bool true, fun w' hw' => ?_, ?_⟩
    · simp [go_sem]
    go_big_quiet_on
    go_big_quiet_want; go_big_quiet_op; first | go_big_quiet_on | (refine ⟨_, fun _ _ => rfl, ?_⟩; go_big_quiet_on)
    go_big_quiet_want; go_big_quiet_op; first | go_big_quiet_on | (refine ⟨_, fun _ _ => rfl, ?_⟩; go_big_quiet_on)
    go_big_quiet_want; go_big_quiet_op; first | go_big_quiet_on | (refine ⟨_, fun _ _ => rfl, ?_⟩; go_big_quiet_on)
    go_big_quiet_want
    go_big_quiet_op
    refine ⟨.int .i64 ask, fun w' hw' => ?_, ?_⟩
    · have q := BT.out.on hw'.out
      have q2 := q.cell 2
      simp at q2
      simp [go_sem, q2]
    go_big_quiet_on
    go_big_quiet_want; go_big_quiet_op
    go_big_quiet_call ((intro hw; exact (l1In_tb hin _).mono fun _ _ ⟨he, hb⟩ => ⟨he, by rw [← hb]; exact hw⟩))
    go_big_quiet_want; go_big_quiet_op; first | go_big_quiet_on | (refine ⟨_, fun _ _ => rfl, ?_⟩; go_big_quiet_on)
    go_big_quiet_want; go_big_quiet_op; first | go_big_quiet_on | (refine ⟨_, fun _ _ => rfl, ?_⟩; go_big_quiet_on)
    go_big_quiet_skip
    go_big_quiet_skip
    go_big_quiet_skip
    go_big_quiet_skip
    go_big_quiet_skip
    go_big_quiet_want; go_big_quiet_op; first | go_big_quiet_on | (refine ⟨_, fun _ _ => rfl, ?_⟩; go_big_quiet_on)
    go_big_quiet_want; go_big_quiet_op; first | go_big_quiet_on | (refine ⟨_, fun _ _ => rfl, ?_⟩; go_big_quiet_on)
    go_big_quiet_skip
    go_big_quiet_skip
    go_big_quiet_skip
    go_big_quiet_skip
    go_big_quiet_skip
    go_big_quiet_skip
    go_big_quiet_skip
    go_big_quiet_want; go_big_quiet_op; first | go_big_quiet_on | (refine ⟨_, fun _ _ => rfl, ?_⟩; go_big_quiet_on)
    go_big_quiet_want; go_big_quiet_op; first | go_big_quiet_on | (refine ⟨_, fun _ _ => rfl, ?_⟩; go_big_quiet_on)
    refine wpQuiet_nil ?_
    intro w3 hw3
    have B3 := Lib.hid (FIN.out _ hw3.out)
    clear hw3 HBD0
    go_wp2
    go_ret
    exact ⟨by rw [HX.out]; rfl, B3.out⟩
  cases hod : odB tell p
  · have HX := Lib.hid (tkT_no (sp := sp) (se := se) (show mdT p g p h ask tell = false by simp [mdT, hod]))
    go_enter Tryd.func38, Tryd.ntmps38
    go_wp2_with fail
    refine wp_region_cls (C := fun w' => Hid (Below W.heap.size W w')) (by kernel_rfl) (by kernel_rfl) HBD0 ?_
    go_big_quiet_want
    go_big_quiet_op
    refine ⟨.agg #[.int .i64 p, (.slice ga gn gc)], fun w' hw' => ?_, ?_⟩
    · have q := BG.out.on hw'.out
      have q0 := q.cell 0
      have q1 := q.cell 1
      simp at q0 q1
      simp [go_sem, q0, q1]
    go_big_quiet_on
    go_big_quiet_want; go_big_quiet_op
    go_big_quiet_call ((intro hw; exact (sgk_is hk1 (HG.out _ hw.out) HP.out HSG.out).mono fun _ _ ⟨he, hb⟩ => ⟨he, Lib.hid (Below.on hw.out hb)⟩))
    go_big_quiet_want; go_big_quiet_op; first | go_big_quiet_on | (refine ⟨_, fun _ _ => rfl, ?_⟩; go_big_quiet_on)
    go_big_quiet_want
    go_big_quiet_op
    refine ⟨.agg #[.int .i64 p, (.slice ha hn hk)], fun w' hw' => ?_, ?_⟩
    · have q := BH.out.on hw'.out
      have q0 := q.cell 0
      have q1 := q.cell 1
      simp at q0 q1
      simp [go_sem, q0, q1]
    go_big_quiet_on
    go_big_quiet_want; go_big_quiet_op
    go_big_quiet_call ((intro hw; exact (sgk_is hk2 (HH.out _ hw.out) HQ.out HSH.out).mono fun _ _ ⟨he, hb⟩ => ⟨he, Lib.hid (Below.on hw.out hb)⟩))
    go_big_quiet_want; go_big_quiet_op; first | go_big_quiet_on | (refine ⟨_, fun _ _ => rfl, ?_⟩; go_big_quiet_on)
    go_big_quiet_want; go_big_quiet_op; first | go_big_quiet_on | (refine ⟨_, fun _ _ => rfl, ?_⟩; go_big_quiet_on)
    go_big_quiet_want; go_big_quiet_op; first | go_big_quiet_on | (refine ⟨_, fun _ _ => rfl, ?_⟩; go_big_quiet_on)
    go_big_quiet_want
    go_big_quiet_op
    refine ⟨.int .i64 p, fun w' hw' => ?_, ?_⟩
    · have q := BG.out.on hw'.out
      have q0 := q.cell 0
      simp at q0
      simp [go_sem, q0]
    go_big_quiet_on
    go_big_quiet_want; go_big_quiet_op; first | go_big_quiet_on | (refine ⟨_, fun _ _ => rfl, ?_⟩; go_big_quiet_on)
    go_big_quiet_want
    go_big_quiet_op
    refine ⟨.int .i64 p, fun w' hw' => ?_, ?_⟩
    · have q := BH.out.on hw'.out
      have q0 := q.cell 0
      simp at q0
      simp [go_sem, q0]
    go_big_quiet_on
    go_big_quiet_want
    go_big_quiet_op
    refine ⟨.bool true, fun w' hw' => ?_, ?_⟩
    · simp [go_sem]
    go_big_quiet_on
    go_big_quiet_want; go_big_quiet_op; first | go_big_quiet_on | (refine ⟨_, fun _ _ => rfl, ?_⟩; go_big_quiet_on)
    go_big_quiet_want; go_big_quiet_op; first | go_big_quiet_on | (refine ⟨_, fun _ _ => rfl, ?_⟩; go_big_quiet_on)
    go_big_quiet_want; go_big_quiet_op; first | go_big_quiet_on | (refine ⟨_, fun _ _ => rfl, ?_⟩; go_big_quiet_on)
    go_big_quiet_want
    go_big_quiet_op
    refine ⟨.int .i64 ask, fun w' hw' => ?_, ?_⟩
    · have q := BT.out.on hw'.out
      have q2 := q.cell 2
      simp at q2
      simp [go_sem, q2]
    go_big_quiet_on
    go_big_quiet_want; go_big_quiet_op
    go_big_quiet_call ((intro hw; exact (l1In_tb hin _).mono fun _ _ ⟨he, hb⟩ => ⟨he, by rw [← hb]; exact hw⟩))
    go_big_quiet_want; go_big_quiet_op; first | go_big_quiet_on | (refine ⟨_, fun _ _ => rfl, ?_⟩; go_big_quiet_on)
    go_big_quiet_want; go_big_quiet_op; first | go_big_quiet_on | (refine ⟨_, fun _ _ => rfl, ?_⟩; go_big_quiet_on)
    go_big_quiet_want; go_big_quiet_op; first | go_big_quiet_on | (refine ⟨_, fun _ _ => rfl, ?_⟩; go_big_quiet_on)
    go_big_quiet_want
    go_big_quiet_op
    refine ⟨(.slice ta tn tc), fun w' hw' => ?_, ?_⟩
    · have q := BT.out.on hw'.out
      have q3 := q.cell 3
      simp at q3
      simp [go_sem, q3]
    go_big_quiet_on
    go_big_quiet_want; go_big_quiet_op; first | go_big_quiet_on | (refine ⟨_, fun _ _ => rfl, ?_⟩; go_big_quiet_on)
    go_big_quiet_want
    go_big_quiet_op
    refine ⟨.int .i64 p, fun w' hw' => ?_, ?_⟩
    · have q := BG.out.on hw'.out
      have q0 := q.cell 0
      simp at q0
      simp [go_sem, q0]
    go_big_quiet_on
    go_big_quiet_want; go_big_quiet_op
    go_big_quiet_call ((intro hw; exact (sod_is hod (HT.out _ hw.out)).mono fun _ _ ⟨he, hb⟩ => ⟨he, Lib.hid (Below.on hw.out hb)⟩))
    go_big_quiet_want; go_big_quiet_op; first | go_big_quiet_on | (refine ⟨_, fun _ _ => rfl, ?_⟩; go_big_quiet_on)
    go_big_quiet_want; go_big_quiet_op; first | go_big_quiet_on | (refine ⟨_, fun _ _ => rfl, ?_⟩; go_big_quiet_on)
    go_big_quiet_skip
    go_big_quiet_skip
    go_big_quiet_skip
    go_big_quiet_skip
    go_big_quiet_skip
    go_big_quiet_skip
    go_big_quiet_skip
    go_big_quiet_want; go_big_quiet_op; first | go_big_quiet_on | (refine ⟨_, fun _ _ => rfl, ?_⟩; go_big_quiet_on)
    go_big_quiet_want; go_big_quiet_op; first | go_big_quiet_on | (refine ⟨_, fun _ _ => rfl, ?_⟩; go_big_quiet_on)
    refine wpQuiet_nil ?_
    intro w3 hw3
    have B3 := Lib.hid (FIN.out _ hw3.out)
    clear hw3 HBD0
    go_wp2
    go_ret
    exact ⟨by rw [HX.out]; rfl, B3.out⟩
  have hm : mdT p g p h ask tell = true := by unfold mdT btB; rw [hk1, hk2, hod, hin]; simp
  have HX : Hid (tkT p g p h sp se ask tell = (decide (p = sp) && sameB (mov tell g) se)) := Lib.hid (by
    unfold tkT; rw [hm, show frm ask g h = g by unfold frm; simp at hask; simp [hask], Bool.true_and, show decide (sp = p) = decide (p = sp) from decide_eq_decide.2 ⟨Eq.symm, Eq.symm⟩])
  have HOD := Lib.hid (odB_true.1 hod)
  have HGK : Hid (Gk p g) := Lib.hid (gkB_true.1 hk1)
  have HBD : Hid (My W (mov tell g) none (((((w.alloc (.cells #[.int .i64 p, (.slice ga gn gc)] 25)).alloc (.cells #[.int .i64 p, (.slice ha hn hk)] 25)).alloc (.cells #[.int .i64 sp, (.slice sa sn sc), .int .i64 ask, (.slice ta tn tc)] 50)).alloc (.cells #[.int .i64 p, (.slice ga gn gc)] 25)).drew)) := Lib.hid ⟨HBD0.out, fun v e => by cases e⟩
  clear hm HBD0
  go_enter Tryd.func38, Tryd.ntmps38
  go_wp2_with fail
  apply wp_region_H (Z := Option Value) (S := fun k => k == 29 || k == 32 || k == 33) (C := fun z w' => Hid (My W (mov tell g) z w')) [0, 1, 2, 3, 4, 5, 6, 7, 8, 9, 10, 11, 12, 13, 14, 15, 16, 17, 18, 19, 20, 21, 22, 23, 24, 25, 26, 27, 28, 30, 31] none
  · kernel_rfl
  · kernel_rfl
  · kernel_rfl
  · exact ⟨rfl, rfl, rfl, rfl, rfl, rfl, rfl, rfl, rfl, rfl, rfl, rfl, rfl, rfl, rfl, rfl, rfl, rfl, rfl, rfl, rfl, rfl, rfl, rfl, rfl, rfl, rfl, rfl, rfl, rfl, rfl, trivial⟩
  · rfl
  · decide
  · exact HBD
  · intro zz
    dsimp only [pickL, nthO]
    go_big_quiet_want
    go_big_quiet_op
    refine ⟨.agg #[.int .i64 p, (.slice ga gn gc)], fun w' hw' => ?_, ?_⟩
    · have q := BG.out.on hw'.out.1
      have q0 := q.cell 0
      have q1 := q.cell 1
      simp at q0 q1
      simp [go_sem, q0, q1]
    go_big_quiet_on
    go_big_quiet_want; go_big_quiet_op
    go_big_quiet_call ((intro hw; exact (sgk_is hk1 (HG.out _ hw.out.1) HP.out HSG.out).mono fun _ _ ⟨he, hb⟩ => ⟨he, Lib.hid ⟨Below.on hw.out.1 hb, fun v e => hw.out.2 v e |>.below hb⟩⟩))
    go_big_quiet_want; go_big_quiet_op; first | go_big_quiet_on | (refine ⟨_, fun _ _ => rfl, ?_⟩; go_big_quiet_on)
    go_big_quiet_want
    go_big_quiet_op
    refine ⟨.agg #[.int .i64 p, (.slice ha hn hk)], fun w' hw' => ?_, ?_⟩
    · have q := BH.out.on hw'.out.1
      have q0 := q.cell 0
      have q1 := q.cell 1
      simp at q0 q1
      simp [go_sem, q0, q1]
    go_big_quiet_on
    go_big_quiet_want; go_big_quiet_op
    go_big_quiet_call ((intro hw; exact (sgk_is hk2 (HH.out _ hw.out.1) HQ.out HSH.out).mono fun _ _ ⟨he, hb⟩ => ⟨he, Lib.hid ⟨Below.on hw.out.1 hb, fun v e => hw.out.2 v e |>.below hb⟩⟩))
    go_big_quiet_want; go_big_quiet_op; first | go_big_quiet_on | (refine ⟨_, fun _ _ => rfl, ?_⟩; go_big_quiet_on)
    go_big_quiet_want; go_big_quiet_op; first | go_big_quiet_on | (refine ⟨_, fun _ _ => rfl, ?_⟩; go_big_quiet_on)
    go_big_quiet_want; go_big_quiet_op; first | go_big_quiet_on | (refine ⟨_, fun _ _ => rfl, ?_⟩; go_big_quiet_on)
    go_big_quiet_want
    go_big_quiet_op
    refine ⟨.int .i64 p, fun w' hw' => ?_, ?_⟩
    · have q := BG.out.on hw'.out.1
      have q0 := q.cell 0
      simp at q0
      simp [go_sem, q0]
    go_big_quiet_on
    go_big_quiet_want; go_big_quiet_op; first | go_big_quiet_on | (refine ⟨_, fun _ _ => rfl, ?_⟩; go_big_quiet_on)
    go_big_quiet_want
    go_big_quiet_op
    refine ⟨.int .i64 p, fun w' hw' => ?_, ?_⟩
    · have q := BH.out.on hw'.out.1
      have q0 := q.cell 0
      simp at q0
      simp [go_sem, q0]
    go_big_quiet_on
    go_big_quiet_want
    go_big_quiet_op
    refine ⟨.bool true, fun w' hw' => ?_, ?_⟩
    · simp [go_sem]
    go_big_quiet_on
    go_big_quiet_want; go_big_quiet_op; first | go_big_quiet_on | (refine ⟨_, fun _ _ => rfl, ?_⟩; go_big_quiet_on)
    go_big_quiet_want; go_big_quiet_op; first | go_big_quiet_on | (refine ⟨_, fun _ _ => rfl, ?_⟩; go_big_quiet_on)
    go_big_quiet_want; go_big_quiet_op; first | go_big_quiet_on | (refine ⟨_, fun _ _ => rfl, ?_⟩; go_big_quiet_on)
    go_big_quiet_want
    go_big_quiet_op
    refine ⟨.int .i64 ask, fun w' hw' => ?_, ?_⟩
    · have q := BT.out.on hw'.out.1
      have q2 := q.cell 2
      simp at q2
      simp [go_sem, q2]
    go_big_quiet_on
    go_big_quiet_want; go_big_quiet_op
    go_big_quiet_call ((intro hw; exact (l1In_tb hin _).mono fun _ _ ⟨he, hb⟩ => ⟨he, by rw [← hb]; exact hw⟩))
    go_big_quiet_want; go_big_quiet_op; first | go_big_quiet_on | (refine ⟨_, fun _ _ => rfl, ?_⟩; go_big_quiet_on)
    go_big_quiet_want; go_big_quiet_op; first | go_big_quiet_on | (refine ⟨_, fun _ _ => rfl, ?_⟩; go_big_quiet_on)
    go_big_quiet_want; go_big_quiet_op; first | go_big_quiet_on | (refine ⟨_, fun _ _ => rfl, ?_⟩; go_big_quiet_on)
    go_big_quiet_want
    go_big_quiet_op
    refine ⟨(.slice ta tn tc), fun w' hw' => ?_, ?_⟩
    · have q := BT.out.on hw'.out.1
      have q3 := q.cell 3
      simp at q3
      simp [go_sem, q3]
    go_big_quiet_on
    go_big_quiet_want; go_big_quiet_op; first | go_big_quiet_on | (refine ⟨_, fun _ _ => rfl, ?_⟩; go_big_quiet_on)
    go_big_quiet_want
    go_big_quiet_op
    refine ⟨.int .i64 p, fun w' hw' => ?_, ?_⟩
    · have q := BG.out.on hw'.out.1
      have q0 := q.cell 0
      simp at q0
      simp [go_sem, q0]
    go_big_quiet_on
    go_big_quiet_want; go_big_quiet_op
    go_big_quiet_call ((intro hw; exact (sod_is hod (HT.out _ hw.out.1)).mono fun _ _ ⟨he, hb⟩ => ⟨he, Lib.hid ⟨Below.on hw.out.1 hb, fun v e => hw.out.2 v e |>.below hb⟩⟩))
    go_big_quiet_want; go_big_quiet_op; first | go_big_quiet_on | (refine ⟨_, fun _ _ => rfl, ?_⟩; go_big_quiet_on)
    go_big_quiet_want; go_big_quiet_op; first | go_big_quiet_on | (refine ⟨_, fun _ _ => rfl, ?_⟩; go_big_quiet_on)
    go_big_quiet_want
    go_big_quiet_op
    refine ⟨.agg #[.int .i64 p, (.slice ga gn gc)], fun w' hw' => ?_, ?_⟩
    · have q := BF.out.on hw'.out.1
      have q0 := q.cell 0
      have q1 := q.cell 1
      simp at q0 q1
      simp [go_sem, q0, q1]
    go_big_quiet_on
    go_big_quiet_want; go_big_quiet_op; first | go_big_quiet_on | (refine ⟨_, fun _ _ => rfl, ?_⟩; go_big_quiet_on)
    go_big_quiet_want
    go_big_quiet_op
    refine ⟨(.slice ta tn tc), fun w' hw' => ?_, ?_⟩
    · have q := BT.out.on hw'.out.1
      have q3 := q.cell 3
      simp at q3
      simp [go_sem, q3]
    go_big_quiet_on
    go_big_quiet_want; go_big_quiet_op; first | go_big_quiet_on | (refine ⟨_, fun _ _ => rfl, ?_⟩; go_big_quiet_on)
    go_big_quiet_want
    go_big_quiet_op
    refine ⟨.agg #[.int .i64 sp, (.slice sa sn sc)], fun w' hw' => ?_, ?_⟩
    · have q := BT.out.on hw'.out.1
      have q0 := q.cell 0
      have q1 := q.cell 1
      simp at q0 q1
      simp [go_sem, q0, q1]
    go_big_quiet_on
    exact wpQuiet_nil rfl
  · refine wpAnyH_call (i := 29) (d := some 42) 65 #[.agg #[.int .i64 p, (.slice ga gn gc)], (.slice ta tn tc)] rfl (by kernel_rfl) rfl rfl (by kernel_rfl) (fun _ => by kernel_rfl) fun wa hc => ?_
    refine (smov_any p (.slice ga gn gc) (.slice ta tn tc) g tell wa (HG.out _ hc.out.1) (HT.out _ hc.out.1) HGK.out HOD.out).mono ?_
    rintro e wc ⟨mv, rfl, om, hb⟩
    refine ⟨_, rfl, some mv, Lib.hid ⟨Below.on hc.out.1 hb, fun v e => by cases e; exact Ints.of_own om (by rw [mov_len HOD.out HGK.out]; exact HFG.out)⟩, ?_⟩
    clear hc om hb
    refine wpAnyH_call (i := 32) (d := some 45) 71 #[.agg #[.int .i64 p, mv], .agg #[.int .i64 sp, (.slice sa sn sc)]] rfl (by kernel_rfl) rfl rfl (by kernel_rfl) (fun _ => by kernel_rfl) fun wd hc => ?_
    refine (ssg_any p sp mv (.slice sa sn sc) (mov tell g) se wd (hc.out.2 mv rfl) (HS.out _ hc.out.1)).mono ?_
    rintro e we ⟨rfl, hb⟩
    refine ⟨_, rfl, none, Lib.hid ⟨Below.on hc.out.1 hb, fun v e => by cases e⟩, ?_⟩
    clear hc hb
    refine wpAnyH_special (i := 33) (d := some 46) rfl (by kernel_rfl) rfl rfl (by kernel_rfl) fun wa hc => ⟨.bool (tkT p g p h sp se ask tell), wa, none, .inl (by rw [HX.out]; first | kernel_rfl | simp [go_sem]), hc, ?_⟩
    clear hc
    refine wpAnyH_assign (i := 34) (d := some 6) _ rfl (by kernel_rfl) rfl rfl (by kernel_rfl) rfl ?_
    refine ⟨by kernel_rfl, fun w3 hw3 => ?_⟩
    simp only [Act.put, List.setIfInBounds_toArray, List.set_cons_succ, List.set_cons_zero]
    have B3 := Lib.hid (FIN.out _ hw3.out.1)
    clear hw3 HBD
    go_wp2
    go_ret
    exact ⟨rfl, B3.out⟩

set_option maxRecDepth 20000 in
set_option maxHeartbeats 1600000 in
theorem strn_1 (p q sp ask : Int) (ga ha sa ta : Option Addr) (gn gc hn hk sn sc tn tc : Nat) (g h se tell : List Int) (w : World) (hg : Ints w (.slice ga gn gc) g) (hh : Ints w (.slice ha hn hk) h) (hse : Ints w (.slice sa sn sc) se) (ht : Ints w (.slice ta tn tc) tell)
    (hp : intIn p) (hq : intIn q) (hs : ∀ j, j < g.length → intIn (nth g j)) (hs' : ∀ j, j < h.length → intIn (nth h j)) (hask : (ask == 1) = true) :
    Calls Tryd.prog 38 #[.agg #[.int .i64 p, (.slice ga gn gc)], .agg #[.int .i64 q, (.slice ha hn hk)], .agg #[.int .i64 sp, (.slice sa sn sc), .int .i64 ask, (.slice ta tn tc)]] w fun e w' => e = .returned (.bool (tkT p g q h sp se ask tell)) ∧ Below w.heap.size w w' := by
  have HB4 := boxes4 (w := w) [.int .i64 p, (.slice ga gn gc)] [.int .i64 q, (.slice ha hn hk)] [.int .i64 sp, (.slice sa sn sc), .int .i64 ask, (.slice ta tn tc)] [.int .i64 q, (.slice ha hn hk)] 25 25 50 25
  obtain ⟨W, hWe, hW, b0, b1, b2, b3⟩ := HB4.out
  have HBD0 : Hid (Below W.heap.size W (((((w.alloc (.cells #[.int .i64 p, (.slice ga gn gc)] 25)).alloc (.cells #[.int .i64 q, (.slice ha hn hk)] 25)).alloc (.cells #[.int .i64 sp, (.slice sa sn sc), .int .i64 ask, (.slice ta tn tc)] 50)).alloc (.cells #[.int .i64 q, (.slice ha hn hk)] 25)).drew)) := Lib.hid (by rw [hWe]; exact (Below.refl _ _).drew)
  have HW := Lib.hid hW
  have BG := Lib.hid b0
  have BH := Lib.hid b1
  have BT := Lib.hid b2
  have BF := Lib.hid b3
  have HG := Lib.hid (show ∀ w', Below W.heap.size W w' → Ints w' (.slice ga gn gc) g from fun w' hb => (hg.below hW).below hb)
  have HH := Lib.hid (show ∀ w', Below W.heap.size W w' → Ints w' (.slice ha hn hk) h from fun w' hb => (hh.below hW).below hb)
  have HS := Lib.hid (show ∀ w', Below W.heap.size W w' → Ints w' (.slice sa sn sc) se from fun w' hb => (hse.below hW).below hb)
  have HT := Lib.hid (show ∀ w', Below W.heap.size W w' → Ints w' (.slice ta tn tc) tell from fun w' hb => (ht.below hW).below hb)
  have HFG := Lib.hid (few_of hg)
  have HFH := Lib.hid (few_of hh)
  have HSG := Lib.hid hs
  have HSH := Lib.hid hs'
  have HP := Lib.hid hp
  have HQ := Lib.hid hq
  have FIN : Hid (∀ w', Below W.heap.size W w' → Below w.heap.size w w') := Lib.hid fun w' hb => hW.trans (hb.mono hW.size)
  clear HB4 hWe hW b0 b1 b2 b3 hg hh hse ht hs hs' hp hq
  cases hk1 : gkB p g
  · have HX := Lib.hid (tkT_no (sp := sp) (se := se) (show mdT p g q h ask tell = false by simp [mdT, btB, hk1]))
    go_enter Tryd.func38, Tryd.ntmps38
    go_wp2_with fail
    refine wp_region_cls (C := fun w' => Hid (Below W.heap.size W w')) (by kernel_rfl) (by kernel_rfl) HBD0 ?_
    go_big_quiet_want
    go_big_quiet_op
    refine ⟨.agg #[.int .i64 p, (.slice ga gn gc)], fun w' hw' => ?_, ?_⟩
    · have q := BG.out.on hw'.out
      have q0 := q.cell 0
      have q1 := q.cell 1
      simp at q0 q1
      simp [go_sem, q0, q1]
    go_big_quiet_on
    go_big_quiet_want; go_big_quiet_op
    go_big_quiet_call ((intro hw; exact (sgk_is hk1 (HG.out _ hw.out) HP.out HSG.out).mono fun _ _ ⟨he, hb⟩ => ⟨he, Lib.hid (Below.on hw.out hb)⟩))
    go_big_quiet_want; go_big_quiet_op; first | go_big_quiet_on | (refine ⟨_, fun _ _ => rfl, ?_⟩; go_big_quiet_on)
    go_big_quiet_skip
    go_big_quiet_skip
    go_big_quiet_want; go_big_quiet_op; first | go_big_quiet_on | (refine ⟨_, fun _ _ => rfl, ?_⟩; go_big_quiet_on)
    go_big_quiet_want; go_big_quiet_op; first | go_big_quiet_on | (refine ⟨_, fun _ _ => rfl, ?_⟩; go_big_quiet_on)
    go_big_quiet_skip
    go_big_quiet_skip
    go_big_quiet_skip
    go_big_quiet_skip
    go_big_quiet_skip
    go_big_quiet_want; go_big_quiet_op; first | go_big_quiet_on | (refine ⟨_, fun _ _ => rfl, ?_⟩; go_big_quiet_on)
    go_big_quiet_want; go_big_quiet_op; first | go_big_quiet_on | (refine ⟨_, fun _ _ => rfl, ?_⟩; go_big_quiet_on)
    go_big_quiet_skip
    go_big_quiet_skip
    go_big_quiet_skip
    go_big_quiet_want; go_big_quiet_op; first | go_big_quiet_on | (refine ⟨_, fun _ _ => rfl, ?_⟩; go_big_quiet_on)
    go_big_quiet_want; go_big_quiet_op; first | go_big_quiet_on | (refine ⟨_, fun _ _ => rfl, ?_⟩; go_big_quiet_on)
    go_big_quiet_skip
    go_big_quiet_skip
    go_big_quiet_skip
    go_big_quiet_skip
    go_big_quiet_skip
    go_big_quiet_want; go_big_quiet_op; first | go_big_quiet_on | (refine ⟨_, fun _ _ => rfl, ?_⟩; go_big_quiet_on)
    go_big_quiet_want; go_big_quiet_op; first | go_big_quiet_on | (refine ⟨_, fun _ _ => rfl, ?_⟩; go_big_quiet_on)
    go_big_quiet_skip
    go_big_quiet_skip
    go_big_quiet_skip
    go_big_quiet_skip
    go_big_quiet_skip
    go_big_quiet_skip
    go_big_quiet_skip
    go_big_quiet_want; go_big_quiet_op; first | go_big_quiet_on | (refine ⟨_, fun _ _ => rfl, ?_⟩; go_big_quiet_on)
    go_big_quiet_want; go_big_quiet_op; first | go_big_quiet_on | (refine ⟨_, fun _ _ => rfl, ?_⟩; go_big_quiet_on)
    refine wpQuiet_nil ?_
    intro w3 hw3
    have B3 := Lib.hid (FIN.out _ hw3.out)
    clear hw3 HBD0
    go_wp2
    go_ret
    exact ⟨by rw [HX.out]; rfl, B3.out⟩
  cases hk2 : gkB q h
  · have HX := Lib.hid (tkT_no (sp := sp) (se := se) (show mdT p g q h ask tell = false by simp [mdT, btB, hk2]))
    go_enter Tryd.func38, Tryd.ntmps38
    go_wp2_with fail
    refine wp_region_cls (C := fun w' => Hid (Below W.heap.size W w')) (by kernel_rfl) (by kernel_rfl) HBD0 ?_
    go_big_quiet_want
    go_big_quiet_op
    refine ⟨.agg #[.int .i64 p, (.slice ga gn gc)], fun w' hw' => ?_, ?_⟩
    · have q := BG.out.on hw'.out
      have q0 := q.cell 0
      have q1 := q.cell 1
      simp at q0 q1
      simp [go_sem, q0, q1]
    go_big_quiet_on
    go_big_quiet_want; go_big_quiet_op
    go_big_quiet_call ((intro hw; exact (sgk_is hk1 (HG.out _ hw.out) HP.out HSG.out).mono fun _ _ ⟨he, hb⟩ => ⟨he, Lib.hid (Below.on hw.out hb)⟩))
    go_big_quiet_want; go_big_quiet_op; first | go_big_quiet_on | (refine ⟨_, fun _ _ => rfl, ?_⟩; go_big_quiet_on)
    go_big_quiet_want
    go_big_quiet_op
    refine ⟨.agg #[.int .i64 q, (.slice ha hn hk)], fun w' hw' => ?_, ?_⟩
    · have q := BH.out.on hw'.out
      have q0 := q.cell 0
      have q1 := q.cell 1
      simp at q0 q1
      simp [go_sem, q0, q1]
    go_big_quiet_on
    go_big_quiet_want; go_big_quiet_op
    go_big_quiet_call ((intro hw; exact (sgk_is hk2 (HH.out _ hw.out) HQ.out HSH.out).mono fun _ _ ⟨he, hb⟩ => ⟨he, Lib.hid (Below.on hw.out hb)⟩))
    go_big_quiet_want; go_big_quiet_op; first | go_big_quiet_on | (refine ⟨_, fun _ _ => rfl, ?_⟩; go_big_quiet_on)
    go_big_quiet_want; go_big_quiet_op; first | go_big_quiet_on | (refine ⟨_, fun _ _ => rfl, ?_⟩; go_big_quiet_on)
    go_big_quiet_skip
    go_big_quiet_skip
    go_big_quiet_skip
    go_big_quiet_skip
    go_big_quiet_skip
    go_big_quiet_want; go_big_quiet_op; first | go_big_quiet_on | (refine ⟨_, fun _ _ => rfl, ?_⟩; go_big_quiet_on)
    go_big_quiet_want; go_big_quiet_op; first | go_big_quiet_on | (refine ⟨_, fun _ _ => rfl, ?_⟩; go_big_quiet_on)
    go_big_quiet_skip
    go_big_quiet_skip
    go_big_quiet_skip
    go_big_quiet_want; go_big_quiet_op; first | go_big_quiet_on | (refine ⟨_, fun _ _ => rfl, ?_⟩; go_big_quiet_on)
    go_big_quiet_want; go_big_quiet_op; first | go_big_quiet_on | (refine ⟨_, fun _ _ => rfl, ?_⟩; go_big_quiet_on)
    go_big_quiet_skip
    go_big_quiet_skip
    go_big_quiet_skip
    go_big_quiet_skip
    go_big_quiet_skip
    go_big_quiet_want; go_big_quiet_op; first | go_big_quiet_on | (refine ⟨_, fun _ _ => rfl, ?_⟩; go_big_quiet_on)
    go_big_quiet_want; go_big_quiet_op; first | go_big_quiet_on | (refine ⟨_, fun _ _ => rfl, ?_⟩; go_big_quiet_on)
    go_big_quiet_skip
    go_big_quiet_skip
    go_big_quiet_skip
    go_big_quiet_skip
    go_big_quiet_skip
    go_big_quiet_skip
    go_big_quiet_skip
    go_big_quiet_want; go_big_quiet_op; first | go_big_quiet_on | (refine ⟨_, fun _ _ => rfl, ?_⟩; go_big_quiet_on)
    go_big_quiet_want; go_big_quiet_op; first | go_big_quiet_on | (refine ⟨_, fun _ _ => rfl, ?_⟩; go_big_quiet_on)
    refine wpQuiet_nil ?_
    intro w3 hw3
    have B3 := Lib.hid (FIN.out _ hw3.out)
    clear hw3 HBD0
    go_wp2
    go_ret
    exact ⟨by rw [HX.out]; rfl, B3.out⟩
  by_cases hpq : p = q
  rotate_left
  · have HX := Lib.hid (tkT_no (sp := sp) (se := se) (show mdT p g q h ask tell = false by simp [mdT, btB, hpq]))
    go_enter Tryd.func38, Tryd.ntmps38
    go_wp2_with fail
    refine wp_region_cls (C := fun w' => Hid (Below W.heap.size W w')) (by kernel_rfl) (by kernel_rfl) HBD0 ?_
    go_big_quiet_want
    go_big_quiet_op
    refine ⟨.agg #[.int .i64 p, (.slice ga gn gc)], fun w' hw' => ?_, ?_⟩
    · have q := BG.out.on hw'.out
      have q0 := q.cell 0
      have q1 := q.cell 1
      simp at q0 q1
      simp [go_sem, q0, q1]
    go_big_quiet_on
    go_big_quiet_want; go_big_quiet_op
    go_big_quiet_call ((intro hw; exact (sgk_is hk1 (HG.out _ hw.out) HP.out HSG.out).mono fun _ _ ⟨he, hb⟩ => ⟨he, Lib.hid (Below.on hw.out hb)⟩))
    go_big_quiet_want; go_big_quiet_op; first | go_big_quiet_on | (refine ⟨_, fun _ _ => rfl, ?_⟩; go_big_quiet_on)
    go_big_quiet_want
    go_big_quiet_op
    refine ⟨.agg #[.int .i64 q, (.slice ha hn hk)], fun w' hw' => ?_, ?_⟩
    · have q := BH.out.on hw'.out
      have q0 := q.cell 0
      have q1 := q.cell 1
      simp at q0 q1
      simp [go_sem, q0, q1]
    go_big_quiet_on
    go_big_quiet_want; go_big_quiet_op
    go_big_quiet_call ((intro hw; exact (sgk_is hk2 (HH.out _ hw.out) HQ.out HSH.out).mono fun _ _ ⟨he, hb⟩ => ⟨he, Lib.hid (Below.on hw.out hb)⟩))
    go_big_quiet_want; go_big_quiet_op; first | go_big_quiet_on | (refine ⟨_, fun _ _ => rfl, ?_⟩; go_big_quiet_on)
    go_big_quiet_want; go_big_quiet_op; first | go_big_quiet_on | (refine ⟨_, fun _ _ => rfl, ?_⟩; go_big_quiet_on)
    go_big_quiet_want; go_big_quiet_op; first | go_big_quiet_on | (refine ⟨_, fun _ _ => rfl, ?_⟩; go_big_quiet_on)
    go_big_quiet_want
    go_big_quiet_op
    refine ⟨.int .i64 p, fun w' hw' => ?_, ?_⟩
    · have q := BG.out.on hw'.out
      have q0 := q.cell 0
      simp at q0
      simp [go_sem, q0]
    go_big_quiet_on
    go_big_quiet_want; go_big_quiet_op; first | go_big_quiet_on | (refine ⟨_, fun _ _ => rfl, ?_⟩; go_big_quiet_on)
    go_big_quiet_want
    go_big_quiet_op
    refine ⟨.int .i64 q, fun w' hw' => ?_, ?_⟩
    · have q := BH.out.on hw'.out
      have q0 := q.cell 0
      simp at q0
      simp [go_sem, q0]
    go_big_quiet_on
    go_big_quiet_want
    go_big_quiet_op
    refine ⟨.bool false, fun w' hw' => ?_, ?_⟩
    · simp [go_sem, hpq]
    go_big_quiet_on
    go_big_quiet_want; go_big_quiet_op; first | go_big_quiet_on | (refine ⟨_, fun _ _ => rfl, ?_⟩; go_big_quiet_on)
    go_big_quiet_want; go_big_quiet_op; first | go_big_quiet_on | (refine ⟨_, fun _ _ => rfl, ?_⟩; go_big_quiet_on)
    go_big_quiet_skip
    go_big_quiet_skip
    go_big_quiet_skip
    go_big_quiet_want; go_big_quiet_op; first | go_big_quiet_on | (refine ⟨_, fun _ _ => rfl, ?_⟩; go_big_quiet_on)
    go_big_quiet_want; go_big_quiet_op; first | go_big_quiet_on | (refine ⟨_, fun _ _ => rfl, ?_⟩; go_big_quiet_on)
    go_big_quiet_skip
    go_big_quiet_skip
    go_big_quiet_skip
    go_big_quiet_skip
    go_big_quiet_skip
    go_big_quiet_want; go_big_quiet_op; first | go_big_quiet_on | (refine ⟨_, fun _ _ => rfl, ?_⟩; go_big_quiet_on)
    go_big_quiet_want; go_big_quiet_op; first | go_big_quiet_on | (refine ⟨_, fun _ _ => rfl, ?_⟩; go_big_quiet_on)
    go_big_quiet_skip
    go_big_quiet_skip
    go_big_quiet_skip
    go_big_quiet_skip
    go_big_quiet_skip
    go_big_quiet_skip
    go_big_quiet_skip
    go_big_quiet_want; go_big_quiet_op; first | go_big_quiet_on | (refine ⟨_, fun _ _ => rfl, ?_⟩; go_big_quiet_on)
    go_big_quiet_want; go_big_quiet_op; first | go_big_quiet_on | (refine ⟨_, fun _ _ => rfl, ?_⟩; go_big_quiet_on)
    refine wpQuiet_nil ?_
    intro w3 hw3
    have B3 := Lib.hid (FIN.out _ hw3.out)
    clear hw3 HBD0
    go_wp2
    go_ret
    exact ⟨by rw [HX.out]; rfl, B3.out⟩
  subst hpq
  cases hin : (decide (0 ≤ ask) && decide (ask ≤ 1))
  · have HX := Lib.hid (tkT_no (sp := sp) (se := se) (show mdT p g p h ask tell = false by simp only [mdT, hin]; simp))
    go_enter Tryd.func38, Tryd.ntmps38
    go_wp2_with fail
    refine wp_region_cls (C := fun w' => Hid (Below W.heap.size W w')) (by kernel_rfl) (by kernel_rfl) HBD0 ?_
    go_big_quiet_want
    go_big_quiet_op
    refine ⟨.agg #[.int .i64 p, (.slice ga gn gc)], fun w' hw' => ?_, ?_⟩
    · have q := BG.out.on hw'.out
      have q0 := q.cell 0
      have q1 := q.cell 1
      simp at q0 q1
      simp [go_sem, q0, q1]
    go_big_quiet_on
    go_big_quiet_want; go_big_quiet_op
    go_big_quiet_call ((intro hw; exact (sgk_is hk1 (HG.out _ hw.out) HP.out HSG.out).mono fun _ _ ⟨he, hb⟩ => ⟨he, Lib.hid (Below.on hw.out hb)⟩))
    go_big_quiet_want; go_big_quiet_op; first | go_big_quiet_on | (refine ⟨_, fun _ _ => rfl, ?_⟩; go_big_quiet_on)
    go_big_quiet_want
    go_big_quiet_op
    refine ⟨.agg #[.int .i64 p, (.slice ha hn hk)], fun w' hw' => ?_, ?_⟩
    · have q := BH.out.on hw'.out
      have q0 := q.cell 0
      have q1 := q.cell 1
      simp at q0 q1
      simp [go_sem, q0, q1]
    go_big_quiet_on
    go_big_quiet_want; go_big_quiet_op
    go_big_quiet_call ((intro hw; exact (sgk_is hk2 (HH.out _ hw.out) HQ.out HSH.out).mono fun _ _ ⟨he, hb⟩ => ⟨he, Lib.hid (Below.on hw.out hb)⟩))
    go_big_quiet_want; go_big_quiet_op; first | go_big_quiet_on | (refine ⟨_, fun _ _ => rfl, ?_⟩; go_big_quiet_on)
    go_big_quiet_want; go_big_quiet_op; first | go_big_quiet_on | (refine ⟨_, fun _ _ => rfl, ?_⟩; go_big_quiet_on)
    go_big_quiet_want; go_big_quiet_op; first | go_big_quiet_on | (refine ⟨_, fun _ _ => rfl, ?_⟩; go_big_quiet_on)
    go_big_quiet_want
    go_big_quiet_op
    refine ⟨.int .i64 p, fun w' hw' => ?_, ?_⟩
    · have q := BG.out.on hw'.out
      have q0 := q.cell 0
      simp at q0
      simp [go_sem, q0]
    go_big_quiet_on
    go_big_quiet_want; go_big_quiet_op; first | go_big_quiet_on | (refine ⟨_, fun _ _ => rfl, ?_⟩; go_big_quiet_on)
    go_big_quiet_want
    go_big_quiet_op
    refine ⟨.int .i64 p, fun w' hw' => ?_, ?_⟩
    · have q := BH.out.on hw'.out
      have q0 := q.cell 0
      simp at q0
      simp [go_sem, q0]
    go_big_quiet_on
    go_big_quiet_want
    go_big_quiet_op
    refine ⟨.bool true, fun w' hw' => ?_, ?_⟩
    · simp [go_sem]
    go_big_quiet_on
    go_big_quiet_want; go_big_quiet_op; first | go_big_quiet_on | (refine ⟨_, fun _ _ => rfl, ?_⟩; go_big_quiet_on)
    go_big_quiet_want; go_big_quiet_op; first | go_big_quiet_on | (refine ⟨_, fun _ _ => rfl, ?_⟩; go_big_quiet_on)
    go_big_quiet_want; go_big_quiet_op; first | go_big_quiet_on | (refine ⟨_, fun _ _ => rfl, ?_⟩; go_big_quiet_on)
    go_big_quiet_want
    go_big_quiet_op
    refine ⟨.int .i64 ask, fun w' hw' => ?_, ?_⟩
    · have q := BT.out.on hw'.out
      have q2 := q.cell 2
      simp at q2
      simp [go_sem, q2]
    go_big_quiet_on
    go_big_quiet_want; go_big_quiet_op
    go_big_quiet_call ((intro hw; exact (l1In_tb hin _).mono fun _ _ ⟨he, hb⟩ => ⟨he, by rw [← hb]; exact hw⟩))
    go_big_quiet_want; go_big_quiet_op; first | go_big_quiet_on | (refine ⟨_, fun _ _ => rfl, ?_⟩; go_big_quiet_on)
    go_big_quiet_want; go_big_quiet_op; first | go_big_quiet_on | (refine ⟨_, fun _ _ => rfl, ?_⟩; go_big_quiet_on)
    go_big_quiet_skip
    go_big_quiet_skip
    go_big_quiet_skip
    go_big_quiet_skip
    go_big_quiet_skip
    go_big_quiet_want; go_big_quiet_op; first | go_big_quiet_on | (refine ⟨_, fun _ _ => rfl, ?_⟩; go_big_quiet_on)
    go_big_quiet_want; go_big_quiet_op; first | go_big_quiet_on | (refine ⟨_, fun _ _ => rfl, ?_⟩; go_big_quiet_on)
    go_big_quiet_skip
    go_big_quiet_skip
    go_big_quiet_skip
    go_big_quiet_skip
    go_big_quiet_skip
    go_big_quiet_skip
    go_big_quiet_skip
    go_big_quiet_want; go_big_quiet_op; first | go_big_quiet_on | (refine ⟨_, fun _ _ => rfl, ?_⟩; go_big_quiet_on)
    go_big_quiet_want; go_big_quiet_op; first | go_big_quiet_on | (refine ⟨_, fun _ _ => rfl, ?_⟩; go_big_quiet_on)
    refine wpQuiet_nil ?_
    intro w3 hw3
    have B3 := Lib.hid (FIN.out _ hw3.out)
    clear hw3 HBD0
    go_wp2
    go_ret
    exact ⟨by rw [HX.out]; rfl, B3.out⟩
  cases hod : odB tell p
  · have HX := Lib.hid (tkT_no (sp := sp) (se := se) (show mdT p g p h ask tell = false by simp [mdT, hod]))
    go_enter Tryd.func38, Tryd.ntmps38
    go_wp2_with fail
    refine wp_region_cls (C := fun w' => Hid (Below W.heap.size W w')) (by kernel_rfl) (by kernel_rfl) HBD0 ?_
    go_big_quiet_want
    go_big_quiet_op
    refine ⟨.agg #[.int .i64 p, (.slice ga gn gc)], fun w' hw' => ?_, ?_⟩
    · have q := BG.out.on hw'.out
      have q0 := q.cell 0
      have q1 := q.cell 1
      simp at q0 q1
      simp [go_sem, q0, q1]
    go_big_quiet_on
    go_big_quiet_want; go_big_quiet_op
    go_big_quiet_call ((intro hw; exact (sgk_is hk1 (HG.out _ hw.out) HP.out HSG.out).mono fun _ _ ⟨he, hb⟩ => ⟨he, Lib.hid (Below.on hw.out hb)⟩))
    go_big_quiet_want; go_big_quiet_op; first | go_big_quiet_on | (refine ⟨_, fun _ _ => rfl, ?_⟩; go_big_quiet_on)
    go_big_quiet_want
    go_big_quiet_op
    refine ⟨.agg #[.int .i64 p, (.slice ha hn hk)], fun w' hw' => ?_, ?_⟩
    · have q := BH.out.on hw'.out
      have q0 := q.cell 0
      have q1 := q.cell 1
      simp at q0 q1
      simp [go_sem, q0, q1]
    go_big_quiet_on
    go_big_quiet_want; go_big_quiet_op
    go_big_quiet_call ((intro hw; exact (sgk_is hk2 (HH.out _ hw.out) HQ.out HSH.out).mono fun _ _ ⟨he, hb⟩ => ⟨he, Lib.hid (Below.on hw.out hb)⟩))
    go_big_quiet_want; go_big_quiet_op; first | go_big_quiet_on | (refine ⟨_, fun _ _ => rfl, ?_⟩; go_big_quiet_on)
    go_big_quiet_want; go_big_quiet_op; first | go_big_quiet_on | (refine ⟨_, fun _ _ => rfl, ?_⟩; go_big_quiet_on)
    go_big_quiet_want; go_big_quiet_op; first | go_big_quiet_on | (refine ⟨_, fun _ _ => rfl, ?_⟩; go_big_quiet_on)
    go_big_quiet_want
    go_big_quiet_op
    refine ⟨.int .i64 p, fun w' hw' => ?_, ?_⟩
    · have q := BG.out.on hw'.out
      have q0 := q.cell 0
      simp at q0
      simp [go_sem, q0]
    go_big_quiet_on
    go_big_quiet_want; go_big_quiet_op; first | go_big_quiet_on | (refine ⟨_, fun _ _ => rfl, ?_⟩; go_big_quiet_on)
    go_big_quiet_want
    go_big_quiet_op
    refine ⟨.int .i64 p, fun w' hw' => ?_, ?_⟩
    · have q := BH.out.on hw'.out
      have q0 := q.cell 0
      simp at q0
      simp [go_sem, q0]
    go_big_quiet_on
    go_big_quiet_want
    go_big_quiet_op
    refine ⟨.bool true, fun w' hw' => ?_, ?_⟩
    · simp [go_sem]
    go_big_quiet_on
    go_big_quiet_want; go_big_quiet_op; first | go_big_quiet_on | (refine ⟨_, fun _ _ => rfl, ?_⟩; go_big_quiet_on)
    go_big_quiet_want; go_big_quiet_op; first | go_big_quiet_on | (refine ⟨_, fun _ _ => rfl, ?_⟩; go_big_quiet_on)
    go_big_quiet_want; go_big_quiet_op; first | go_big_quiet_on | (refine ⟨_, fun _ _ => rfl, ?_⟩; go_big_quiet_on)
    go_big_quiet_want
    go_big_quiet_op
    refine ⟨.int .i64 ask, fun w' hw' => ?_, ?_⟩
    · have q := BT.out.on hw'.out
      have q2 := q.cell 2
      simp at q2
      simp [go_sem, q2]
    go_big_quiet_on
    go_big_quiet_want; go_big_quiet_op
    go_big_quiet_call ((intro hw; exact (l1In_tb hin _).mono fun _ _ ⟨he, hb⟩ => ⟨he, by rw [← hb]; exact hw⟩))
    go_big_quiet_want; go_big_quiet_op; first | go_big_quiet_on | (refine ⟨_, fun _ _ => rfl, ?_⟩; go_big_quiet_on)
    go_big_quiet_want; go_big_quiet_op; first | go_big_quiet_on | (refine ⟨_, fun _ _ => rfl, ?_⟩; go_big_quiet_on)
    go_big_quiet_want; go_big_quiet_op; first | go_big_quiet_on | (refine ⟨_, fun _ _ => rfl, ?_⟩; go_big_quiet_on)
    go_big_quiet_want
    go_big_quiet_op
    refine ⟨(.slice ta tn tc), fun w' hw' => ?_, ?_⟩
    · have q := BT.out.on hw'.out
      have q3 := q.cell 3
      simp at q3
      simp [go_sem, q3]
    go_big_quiet_on
    go_big_quiet_want; go_big_quiet_op; first | go_big_quiet_on | (refine ⟨_, fun _ _ => rfl, ?_⟩; go_big_quiet_on)
    go_big_quiet_want
    go_big_quiet_op
    refine ⟨.int .i64 p, fun w' hw' => ?_, ?_⟩
    · have q := BG.out.on hw'.out
      have q0 := q.cell 0
      simp at q0
      simp [go_sem, q0]
    go_big_quiet_on
    go_big_quiet_want; go_big_quiet_op
    go_big_quiet_call ((intro hw; exact (sod_is hod (HT.out _ hw.out)).mono fun _ _ ⟨he, hb⟩ => ⟨he, Lib.hid (Below.on hw.out hb)⟩))
    go_big_quiet_want; go_big_quiet_op; first | go_big_quiet_on | (refine ⟨_, fun _ _ => rfl, ?_⟩; go_big_quiet_on)
    go_big_quiet_want; go_big_quiet_op; first | go_big_quiet_on | (refine ⟨_, fun _ _ => rfl, ?_⟩; go_big_quiet_on)
    go_big_quiet_skip
    go_big_quiet_skip
    go_big_quiet_skip
    go_big_quiet_skip
    go_big_quiet_skip
    go_big_quiet_skip
    go_big_quiet_skip
    go_big_quiet_want; go_big_quiet_op; first | go_big_quiet_on | (refine ⟨_, fun _ _ => rfl, ?_⟩; go_big_quiet_on)
    go_big_quiet_want; go_big_quiet_op; first | go_big_quiet_on | (refine ⟨_, fun _ _ => rfl, ?_⟩; go_big_quiet_on)
    refine wpQuiet_nil ?_
    intro w3 hw3
    have B3 := Lib.hid (FIN.out _ hw3.out)
    clear hw3 HBD0
    go_wp2
    go_ret
    exact ⟨by rw [HX.out]; rfl, B3.out⟩
  have hm : mdT p g p h ask tell = true := by unfold mdT btB; rw [hk1, hk2, hod, hin]; simp
  have HX : Hid (tkT p g p h sp se ask tell = (decide (p = sp) && sameB (mov tell h) se)) := Lib.hid (by
    unfold tkT; rw [hm, show frm ask g h = h by unfold frm; simp at hask; simp [hask], Bool.true_and, show decide (sp = p) = decide (p = sp) from decide_eq_decide.2 ⟨Eq.symm, Eq.symm⟩])
  have HOD := Lib.hid (odB_true.1 hod)
  have HGK : Hid (Gk p h) := Lib.hid (gkB_true.1 hk2)
  have HBD : Hid (My W (mov tell h) none (((((w.alloc (.cells #[.int .i64 p, (.slice ga gn gc)] 25)).alloc (.cells #[.int .i64 p, (.slice ha hn hk)] 25)).alloc (.cells #[.int .i64 sp, (.slice sa sn sc), .int .i64 ask, (.slice ta tn tc)] 50)).alloc (.cells #[.int .i64 p, (.slice ha hn hk)] 25)).drew)) := Lib.hid ⟨HBD0.out, fun v e => by cases e⟩
  clear hm HBD0
  go_enter Tryd.func38, Tryd.ntmps38
  go_wp2_with fail
  apply wp_region_H (Z := Option Value) (S := fun k => k == 29 || k == 32 || k == 33) (C := fun z w' => Hid (My W (mov tell h) z w')) [0, 1, 2, 3, 4, 5, 6, 7, 8, 9, 10, 11, 12, 13, 14, 15, 16, 17, 18, 19, 20, 21, 22, 23, 24, 25, 26, 27, 28, 30, 31] none
  · kernel_rfl
  · kernel_rfl
  · kernel_rfl
  · exact ⟨rfl, rfl, rfl, rfl, rfl, rfl, rfl, rfl, rfl, rfl, rfl, rfl, rfl, rfl, rfl, rfl, rfl, rfl, rfl, rfl, rfl, rfl, rfl, rfl, rfl, rfl, rfl, rfl, rfl, rfl, rfl, trivial⟩
  · rfl
  · decide
  · exact HBD
  · intro zz
    dsimp only [pickL, nthO]
    go_big_quiet_want
    go_big_quiet_op
    refine ⟨.agg #[.int .i64 p, (.slice ga gn gc)], fun w' hw' => ?_, ?_⟩
    · have q := BG.out.on hw'.out.1
      have q0 := q.cell 0
      have q1 := q.cell 1
      simp at q0 q1
      simp [go_sem, q0, q1]
    go_big_quiet_on
    go_big_quiet_want; go_big_quiet_op
    go_big_quiet_call ((intro hw; exact (sgk_is hk1 (HG.out _ hw.out.1) HP.out HSG.out).mono fun _ _ ⟨he, hb⟩ => ⟨he, Lib.hid ⟨Below.on hw.out.1 hb, fun v e => hw.out.2 v e |>.below hb⟩⟩))
    go_big_quiet_want; go_big_quiet_op; first | go_big_quiet_on | (refine ⟨_, fun _ _ => rfl, ?_⟩; go_big_quiet_on)
    go_big_quiet_want
    go_big_quiet_op
    refine ⟨.agg #[.int .i64 p, (.slice ha hn hk)], fun w' hw' => ?_, ?_⟩
    · have q := BH.out.on hw'.out.1
      have q0 := q.cell 0
      have q1 := q.cell 1
      simp at q0 q1
      simp [go_sem, q0, q1]
    go_big_quiet_on
    go_big_quiet_want; go_big_quiet_op
    go_big_quiet_call ((intro hw; exact (sgk_is hk2 (HH.out _ hw.out.1) HQ.out HSH.out).mono fun _ _ ⟨he, hb⟩ => ⟨he, Lib.hid ⟨Below.on hw.out.1 hb, fun v e => hw.out.2 v e |>.below hb⟩⟩))
    go_big_quiet_want; go_big_quiet_op; first | go_big_quiet_on | (refine ⟨_, fun _ _ => rfl, ?_⟩; go_big_quiet_on)
    go_big_quiet_want; go_big_quiet_op; first | go_big_quiet_on | (refine ⟨_, fun _ _ => rfl, ?_⟩; go_big_quiet_on)
    go_big_quiet_want; go_big_quiet_op; first | go_big_quiet_on | (refine ⟨_, fun _ _ => rfl, ?_⟩; go_big_quiet_on)
    go_big_quiet_want
    go_big_quiet_op
    refine ⟨.int .i64 p, fun w' hw' => ?_, ?_⟩
    · have q := BG.out.on hw'.out.1
      have q0 := q.cell 0
      simp at q0
      simp [go_sem, q0]
    go_big_quiet_on
    go_big_quiet_want; go_big_quiet_op; first | go_big_quiet_on | (refine ⟨_, fun _ _ => rfl, ?_⟩; go_big_quiet_on)
    go_big_quiet_want
    go_big_quiet_op
    refine ⟨.int .i64 p, fun w' hw' => ?_, ?_⟩
    · have q := BH.out.on hw'.out.1
      have q0 := q.cell 0
      simp at q0
      simp [go_sem, q0]
    go_big_quiet_on
    go_big_quiet_want
    go_big_quiet_op
    refine ⟨.bool true, fun w' hw' => ?_, ?_⟩
    · simp [go_sem]
    go_big_quiet_on
    go_big_quiet_want; go_big_quiet_op; first | go_big_quiet_on | (refine ⟨_, fun _ _ => rfl, ?_⟩; go_big_quiet_on)
    go_big_quiet_want; go_big_quiet_op; first | go_big_quiet_on | (refine ⟨_, fun _ _ => rfl, ?_⟩; go_big_quiet_on)
    go_big_quiet_want; go_big_quiet_op; first | go_big_quiet_on | (refine ⟨_, fun _ _ => rfl, ?_⟩; go_big_quiet_on)
    go_big_quiet_want
    go_big_quiet_op
    refine ⟨.int .i64 ask, fun w' hw' => ?_, ?_⟩
    · have q := BT.out.on hw'.out.1
      have q2 := q.cell 2
      simp at q2
      simp [go_sem, q2]
    go_big_quiet_on
    go_big_quiet_want; go_big_quiet_op
    go_big_quiet_call ((intro hw; exact (l1In_tb hin _).mono fun _ _ ⟨he, hb⟩ => ⟨he, by rw [← hb]; exact hw⟩))
    go_big_quiet_want; go_big_quiet_op; first | go_big_quiet_on | (refine ⟨_, fun _ _ => rfl, ?_⟩; go_big_quiet_on)
    go_big_quiet_want; go_big_quiet_op; first | go_big_quiet_on | (refine ⟨_, fun _ _ => rfl, ?_⟩; go_big_quiet_on)
    go_big_quiet_want; go_big_quiet_op; first | go_big_quiet_on | (refine ⟨_, fun _ _ => rfl, ?_⟩; go_big_quiet_on)
    go_big_quiet_want
    go_big_quiet_op
    refine ⟨(.slice ta tn tc), fun w' hw' => ?_, ?_⟩
    · have q := BT.out.on hw'.out.1
      have q3 := q.cell 3
      simp at q3
      simp [go_sem, q3]
    go_big_quiet_on
    go_big_quiet_want; go_big_quiet_op; first | go_big_quiet_on | (refine ⟨_, fun _ _ => rfl, ?_⟩; go_big_quiet_on)
    go_big_quiet_want
    go_big_quiet_op
    refine ⟨.int .i64 p, fun w' hw' => ?_, ?_⟩
    · have q := BG.out.on hw'.out.1
      have q0 := q.cell 0
      simp at q0
      simp [go_sem, q0]
    go_big_quiet_on
    go_big_quiet_want; go_big_quiet_op
    go_big_quiet_call ((intro hw; exact (sod_is hod (HT.out _ hw.out.1)).mono fun _ _ ⟨he, hb⟩ => ⟨he, Lib.hid ⟨Below.on hw.out.1 hb, fun v e => hw.out.2 v e |>.below hb⟩⟩))
    go_big_quiet_want; go_big_quiet_op; first | go_big_quiet_on | (refine ⟨_, fun _ _ => rfl, ?_⟩; go_big_quiet_on)
    go_big_quiet_want; go_big_quiet_op; first | go_big_quiet_on | (refine ⟨_, fun _ _ => rfl, ?_⟩; go_big_quiet_on)
    go_big_quiet_want
    go_big_quiet_op
    refine ⟨.agg #[.int .i64 p, (.slice ha hn hk)], fun w' hw' => ?_, ?_⟩
    · have q := BF.out.on hw'.out.1
      have q0 := q.cell 0
      have q1 := q.cell 1
      simp at q0 q1
      simp [go_sem, q0, q1]
    go_big_quiet_on
    go_big_quiet_want; go_big_quiet_op; first | go_big_quiet_on | (refine ⟨_, fun _ _ => rfl, ?_⟩; go_big_quiet_on)
    go_big_quiet_want
    go_big_quiet_op
    refine ⟨(.slice ta tn tc), fun w' hw' => ?_, ?_⟩
    · have q := BT.out.on hw'.out.1
      have q3 := q.cell 3
      simp at q3
      simp [go_sem, q3]
    go_big_quiet_on
    go_big_quiet_want; go_big_quiet_op; first | go_big_quiet_on | (refine ⟨_, fun _ _ => rfl, ?_⟩; go_big_quiet_on)
    go_big_quiet_want
    go_big_quiet_op
    refine ⟨.agg #[.int .i64 sp, (.slice sa sn sc)], fun w' hw' => ?_, ?_⟩
    · have q := BT.out.on hw'.out.1
      have q0 := q.cell 0
      have q1 := q.cell 1
      simp at q0 q1
      simp [go_sem, q0, q1]
    go_big_quiet_on
    exact wpQuiet_nil rfl
  · refine wpAnyH_call (i := 29) (d := some 42) 65 #[.agg #[.int .i64 p, (.slice ha hn hk)], (.slice ta tn tc)] rfl (by kernel_rfl) rfl rfl (by kernel_rfl) (fun _ => by kernel_rfl) fun wa hc => ?_
    refine (smov_any p (.slice ha hn hk) (.slice ta tn tc) h tell wa (HH.out _ hc.out.1) (HT.out _ hc.out.1) HGK.out HOD.out).mono ?_
    rintro e wc ⟨mv, rfl, om, hb⟩
    refine ⟨_, rfl, some mv, Lib.hid ⟨Below.on hc.out.1 hb, fun v e => by cases e; exact Ints.of_own om (by rw [mov_len HOD.out HGK.out]; exact HFH.out)⟩, ?_⟩
    clear hc om hb
    refine wpAnyH_call (i := 32) (d := some 45) 71 #[.agg #[.int .i64 p, mv], .agg #[.int .i64 sp, (.slice sa sn sc)]] rfl (by kernel_rfl) rfl rfl (by kernel_rfl) (fun _ => by kernel_rfl) fun wd hc => ?_
    refine (ssg_any p sp mv (.slice sa sn sc) (mov tell h) se wd (hc.out.2 mv rfl) (HS.out _ hc.out.1)).mono ?_
    rintro e we ⟨rfl, hb⟩
    refine ⟨_, rfl, none, Lib.hid ⟨Below.on hc.out.1 hb, fun v e => by cases e⟩, ?_⟩
    clear hc hb
    refine wpAnyH_special (i := 33) (d := some 46) rfl (by kernel_rfl) rfl rfl (by kernel_rfl) fun wa hc => ⟨.bool (tkT p g p h sp se ask tell), wa, none, .inl (by rw [HX.out]; first | kernel_rfl | simp [go_sem]), hc, ?_⟩
    clear hc
    refine wpAnyH_assign (i := 34) (d := some 6) _ rfl (by kernel_rfl) rfl rfl (by kernel_rfl) rfl ?_
    refine ⟨by kernel_rfl, fun w3 hw3 => ?_⟩
    simp only [Act.put, List.setIfInBounds_toArray, List.set_cons_succ, List.set_cons_zero]
    have B3 := Lib.hid (FIN.out _ hw3.out.1)
    clear hw3 HBD
    go_wp2
    go_ret
    exact ⟨rfl, B3.out⟩

theorem strn_any (p q sp ask : Int) (gv hv sv tv : Value) (g h se tell : List Int) (w : World) (hg : Ints w gv g) (hh : Ints w hv h) (hse : Ints w sv se) (ht : Ints w tv tell)
    (hp : intIn p) (hq : intIn q) (hs : ∀ j, j < g.length → intIn (nth g j)) (hs' : ∀ j, j < h.length → intIn (nth h j)) :
    Calls Tryd.prog 38 #[.agg #[.int .i64 p, gv], .agg #[.int .i64 q, hv], .agg #[.int .i64 sp, sv, .int .i64 ask, tv]] w fun e w' => e = .returned (.bool (tkT p g q h sp se ask tell)) ∧ Below w.heap.size w w' := by
  obtain ⟨_, _, rfl, _⟩ := hg.opened
  obtain ⟨_, _, rfl, _⟩ := hh.opened
  obtain ⟨_, _, rfl, _⟩ := hse.opened
  obtain ⟨_, _, rfl, _⟩ := ht.opened
  cases ha : (ask == 1)
  · exact strn_0 p q sp ask _ _ _ _ _ _ _ _ _ _ _ _ g h se tell w hg hh hse ht hp hq hs hs' ha
  · exact strn_1 p q sp ask _ _ _ _ _ _ _ _ _ _ _ _ g h se tell w hg hh hse ht hp hq hs hs' ha
theorem strn_is {p q sp ask : Int} {gv hv sv tv : Value} {g h se tell : List Int} {w : World} {r : Bool} (hr : tkT p g q h sp se ask tell = r) (hg : Ints w gv g) (hh : Ints w hv h) (hse : Ints w sv se) (ht : Ints w tv tell)
    (hp : intIn p) (hq : intIn q) (hs : ∀ j, j < g.length → intIn (nth g j)) (hs' : ∀ j, j < h.length → intIn (nth h j)) :
    Calls Tryd.prog 38 #[.agg #[.int .i64 p, gv], .agg #[.int .i64 q, hv], .agg #[.int .i64 sp, sv, .int .i64 ask, tv]] w fun e w' => e = .returned (.bool r) ∧ Below w.heap.size w w' := by rw [← hr]; exact strn_any p q sp ask gv hv sv tv g h se tell w hg hh hse ht hp hq hs hs'
end Go.Proofs.YtipndddmjgjgpabDoor
