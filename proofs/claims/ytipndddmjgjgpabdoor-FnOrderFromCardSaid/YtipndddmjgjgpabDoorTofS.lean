/- spec: TurnOf. -/
import Derived.Test.YtipndddmjgjgpabDoorTmdS
import Derived.Test.YtipndddmjgjgpabDoorBtsS
namespace Go.Proofs.YtipndddmjgjgpabDoor
open Go.RowKit

def OfPost (p : Int) (g : List Int) (q : Int) (h known further : List Int) (ask : Int) (w : World) (e : Ending) (w' : World) : Prop :=
  if ofT p g q h known further ask then TrnPost w p (mov further g) ask (toldT known further ask) true e w' else TrnPost w 0 [] 0 [] false e w'

set_option maxRecDepth 20000 in
set_option maxHeartbeats 1600000 in
theorem stof_no (p q ask : Int) (ga ha : Option Addr) (gn gc hn hk : Nat) (kv fv : Value) (g h known further : List Int) (w : World) (hg : Ints w (.slice ga gn gc) g) (hh : Ints w (.slice ha hn hk) h) (hkn : Ints w kv known) (hf : Ints w fv further) (hp : intIn p) (hq : intIn q) (hs : ∀ j, j < g.length → intIn (nth g j)) (hs' : ∀ j, j < h.length → intIn (nth h j)) (hb : ofT p g q h known further ask = false) :
    Calls Tryd.prog 43 #[.agg #[.int .i64 p, (.slice ga gn gc)], .agg #[.int .i64 q, (.slice ha hn hk)], kv, fv, .int .i64 ask] w (OfPost p g q h known further ask w) := by
  have HB3 := boxes3w (w := w) [.int .i64 p, (.slice ga gn gc)] [.int .i64 q, (.slice ha hn hk)] [.int .i64 0, .slice none 0 0, .int .i64 0, .slice none 0 0] 25 25 50
  obtain ⟨W, hWe, hWs, hW, b0, b1, b2⟩ := HB3.out
  have B0 : Hid (Below W.heap.size W (((w.alloc (.cells #[.int .i64 p, (.slice ga gn gc)] 25)).alloc (.cells #[.int .i64 q, (.slice ha hn hk)] 25)).alloc (.cells #[.int .i64 0, .slice none 0 0, .int .i64 0, .slice none 0 0] 50))) := Lib.hid (by rw [hWe]; exact Below.refl _ _)
  have HBD0 : Hid (Below W.heap.size W (((w.alloc (.cells #[.int .i64 p, (.slice ga gn gc)] 25)).alloc (.cells #[.int .i64 q, (.slice ha hn hk)] 25)).alloc (.cells #[.int .i64 0, .slice none 0 0, .int .i64 0, .slice none 0 0] 50)).drew) := Lib.hid (by rw [hWe]; exact (Below.refl _ _).drew)
  have HW := Lib.hid hW
  have HWS := Lib.hid hWs
  have BG := Lib.hid b0
  have BH := Lib.hid b1
  have BO := Lib.hid b2
  have HG := Lib.hid (show ∀ w', Below W.heap.size W w' → Ints w' (.slice ga gn gc) g from fun w' hb => (hg.below hW).below hb)
  have HH := Lib.hid (show ∀ w', Below W.heap.size W w' → Ints w' (.slice ha hn hk) h from fun w' hb => (hh.below hW).below hb)
  have HK := Lib.hid (show ∀ w', Below W.heap.size W w' → Ints w' kv known from fun w' hb => (hkn.below hW).below hb)
  have HF := Lib.hid (show ∀ w', Below W.heap.size W w' → Ints w' fv further from fun w' hb => (hf.below hW).below hb)
  have HFG := Lib.hid (few_of hg)
  have HSG := Lib.hid hs
  have HSH := Lib.hid hs'
  have HP := Lib.hid hp
  have HQ := Lib.hid hq
  have FIN : Hid (∀ w', Below W.heap.size W w' → Below w.heap.size w w') := Lib.hid fun w' hb => hW.trans (hb.mono hW.size)
  clear HB3 hWe hWs hW b0 b1 b2 hg hh hkn hf hs hs' hp hq
  cases k1 : gkB p g
  · have HX := Lib.hid (show ofT p g q h known further ask = false from hb)
    go_enter Tryd.func43, Tryd.ntmps43
    go_wp2_with fail
    refine wp_region_cls (C := fun w' => Hid (Below W.heap.size W w')) (by kernel_rfl) (by kernel_rfl) HBD0 ?_
    go_big_quiet_want
    go_big_quiet_op
    refine ⟨.agg #[.int .i64 p, (.slice ga gn gc)], fun w' hw' => ?_, ?_⟩
    · have q := BG.out.on hw'.out
      have q0 := q.cell 0
      have q1 := q.cell 1
      simp at q0 q1
      simp [go_sem, q0, q1]
    go_big_quiet_on
    go_big_quiet_want; go_big_quiet_op
    go_big_quiet_call ((intro hw; exact (sgk_is k1 (HG.out _ hw.out) HP.out HSG.out).mono fun _ _ ⟨he, hb⟩ => ⟨he, Lib.hid (Below.on hw.out hb)⟩))
    go_big_quiet_want; go_big_quiet_op; first | go_big_quiet_on | (refine ⟨_, fun _ _ => rfl, ?_⟩; go_big_quiet_on)
    go_big_quiet_want; go_big_quiet_op; first | go_big_quiet_on | (refine ⟨_, fun _ _ => rfl, ?_⟩; go_big_quiet_on)
    go_big_quiet_skip
    go_big_quiet_skip
    go_big_quiet_skip
    go_big_quiet_want; go_big_quiet_op; first | go_big_quiet_on | (refine ⟨_, fun _ _ => rfl, ?_⟩; go_big_quiet_on)
    go_big_quiet_want; go_big_quiet_op; first | go_big_quiet_on | (refine ⟨_, fun _ _ => rfl, ?_⟩; go_big_quiet_on)
    go_big_quiet_skip
    go_big_quiet_skip
    go_big_quiet_skip
    go_big_quiet_skip
    go_big_quiet_skip
    go_big_quiet_want; go_big_quiet_op; first | go_big_quiet_on | (refine ⟨_, fun _ _ => rfl, ?_⟩; go_big_quiet_on)
    go_big_quiet_want; go_big_quiet_op; first | go_big_quiet_on | (refine ⟨_, fun _ _ => rfl, ?_⟩; go_big_quiet_on)
    go_big_quiet_skip
    go_big_quiet_skip
    go_big_quiet_skip
    go_big_quiet_skip
    go_big_quiet_skip
    go_big_quiet_want; go_big_quiet_op; first | go_big_quiet_on | (refine ⟨_, fun _ _ => rfl, ?_⟩; go_big_quiet_on)
    go_big_quiet_want; go_big_quiet_op; first | go_big_quiet_on | (refine ⟨_, fun _ _ => rfl, ?_⟩; go_big_quiet_on)
    go_big_quiet_skip
    go_big_quiet_skip
    go_big_quiet_skip
    go_big_quiet_skip
    go_big_quiet_skip
    go_big_quiet_want; go_big_quiet_op; first | go_big_quiet_on | (refine ⟨_, fun _ _ => rfl, ?_⟩; go_big_quiet_on)
    go_big_quiet_want; go_big_quiet_op; first | go_big_quiet_on | (refine ⟨_, fun _ _ => rfl, ?_⟩; go_big_quiet_on)
    go_big_quiet_skip
    go_big_quiet_skip
    go_big_quiet_skip
    go_big_quiet_want; go_big_quiet_op; first | go_big_quiet_on | (refine ⟨_, fun _ _ => rfl, ?_⟩; go_big_quiet_on)
    go_big_quiet_want; go_big_quiet_op; first | go_big_quiet_on | (refine ⟨_, fun _ _ => rfl, ?_⟩; go_big_quiet_on)
    go_big_quiet_skip
    go_big_quiet_skip
    go_big_quiet_skip
    go_big_quiet_skip
    go_big_quiet_skip
    go_big_quiet_skip
    go_big_quiet_want; go_big_quiet_op; first | go_big_quiet_on | (refine ⟨_, fun _ _ => rfl, ?_⟩; go_big_quiet_on)
    refine wpQuiet_nil ?_
    intro w3 hw3
    have B3 := Lib.hid hw3.out
    clear hw3 HBD0
    have co0 := (BO.out.on B3.out).cell 0
    have co1 := (BO.out.on B3.out).cell 1
    have co2 := (BO.out.on B3.out).cell 2
    have co3 := (BO.out.on B3.out).cell 3
    simp at co0 co1 co2 co3
    have f0 := (BO.out.on B3.out).frozen 0
    have f1 := (BO.out.on B3.out).frozen 1
    have f2 := (BO.out.on B3.out).frozen 2
    have f3 := (BO.out.on B3.out).frozen 3
    have FF := Lib.hid (FIN.out _ B3.out)
    go_wp2
    refine bodyPost_ret (v := .tuple #[.agg #[.int .i64 0, .slice none 0 0, .int .i64 0, .slice none 0 0], .bool false]) ?_ rfl ?_
    · simp [results, Tryd.results43, go_sem, co0, co1, co2, co3]
    · unfold OfPost
      rw [HX.out]
      exact ⟨_, _, rfl, World.ownsRow_nil _ _ _ _, World.ownsRow_nil _ _ _ _, fun k hk => (by cases hk), (by first | exact below_set4 FF.out (by omega) | exact FF.out)⟩
  cases k2 : gkB q h
  · have HX := Lib.hid (show ofT p g q h known further ask = false from hb)
    go_enter Tryd.func43, Tryd.ntmps43
    go_wp2_with fail
    refine wp_region_cls (C := fun w' => Hid (Below W.heap.size W w')) (by kernel_rfl) (by kernel_rfl) HBD0 ?_
    go_big_quiet_want
    go_big_quiet_op
    refine ⟨.agg #[.int .i64 p, (.slice ga gn gc)], fun w' hw' => ?_, ?_⟩
    · have q := BG.out.on hw'.out
      have q0 := q.cell 0
      have q1 := q.cell 1
      simp at q0 q1
      simp [go_sem, q0, q1]
    go_big_quiet_on
    go_big_quiet_want; go_big_quiet_op
    go_big_quiet_call ((intro hw; exact (sgk_is k1 (HG.out _ hw.out) HP.out HSG.out).mono fun _ _ ⟨he, hb⟩ => ⟨he, Lib.hid (Below.on hw.out hb)⟩))
    go_big_quiet_want; go_big_quiet_op; first | go_big_quiet_on | (refine ⟨_, fun _ _ => rfl, ?_⟩; go_big_quiet_on)
    go_big_quiet_want; go_big_quiet_op; first | go_big_quiet_on | (refine ⟨_, fun _ _ => rfl, ?_⟩; go_big_quiet_on)
    go_big_quiet_want
    go_big_quiet_op
    refine ⟨.agg #[.int .i64 q, (.slice ha hn hk)], fun w' hw' => ?_, ?_⟩
    · have q := BH.out.on hw'.out
      have q0 := q.cell 0
      have q1 := q.cell 1
      simp at q0 q1
      simp [go_sem, q0, q1]
    go_big_quiet_on
    go_big_quiet_want; go_big_quiet_op
    go_big_quiet_call ((intro hw; exact (sgk_is k2 (HH.out _ hw.out) HQ.out HSH.out).mono fun _ _ ⟨he, hb⟩ => ⟨he, Lib.hid (Below.on hw.out hb)⟩))
    go_big_quiet_want; go_big_quiet_op; first | go_big_quiet_on | (refine ⟨_, fun _ _ => rfl, ?_⟩; go_big_quiet_on)
    go_big_quiet_want; go_big_quiet_op; first | go_big_quiet_on | (refine ⟨_, fun _ _ => rfl, ?_⟩; go_big_quiet_on)
    go_big_quiet_want; go_big_quiet_op; first | go_big_quiet_on | (refine ⟨_, fun _ _ => rfl, ?_⟩; go_big_quiet_on)
    go_big_quiet_skip
    go_big_quiet_skip
    go_big_quiet_skip
    go_big_quiet_skip
    go_big_quiet_skip
    go_big_quiet_want; go_big_quiet_op; first | go_big_quiet_on | (refine ⟨_, fun _ _ => rfl, ?_⟩; go_big_quiet_on)
    go_big_quiet_want; go_big_quiet_op; first | go_big_quiet_on | (refine ⟨_, fun _ _ => rfl, ?_⟩; go_big_quiet_on)
    go_big_quiet_skip
    go_big_quiet_skip
    go_big_quiet_skip
    go_big_quiet_skip
    go_big_quiet_skip
    go_big_quiet_want; go_big_quiet_op; first | go_big_quiet_on | (refine ⟨_, fun _ _ => rfl, ?_⟩; go_big_quiet_on)
    go_big_quiet_want; go_big_quiet_op; first | go_big_quiet_on | (refine ⟨_, fun _ _ => rfl, ?_⟩; go_big_quiet_on)
    go_big_quiet_skip
    go_big_quiet_skip
    go_big_quiet_skip
    go_big_quiet_skip
    go_big_quiet_skip
    go_big_quiet_want; go_big_quiet_op; first | go_big_quiet_on | (refine ⟨_, fun _ _ => rfl, ?_⟩; go_big_quiet_on)
    go_big_quiet_want; go_big_quiet_op; first | go_big_quiet_on | (refine ⟨_, fun _ _ => rfl, ?_⟩; go_big_quiet_on)
    go_big_quiet_skip
    go_big_quiet_skip
    go_big_quiet_skip
    go_big_quiet_want; go_big_quiet_op; first | go_big_quiet_on | (refine ⟨_, fun _ _ => rfl, ?_⟩; go_big_quiet_on)
    go_big_quiet_want; go_big_quiet_op; first | go_big_quiet_on | (refine ⟨_, fun _ _ => rfl, ?_⟩; go_big_quiet_on)
    go_big_quiet_skip
    go_big_quiet_skip
    go_big_quiet_skip
    go_big_quiet_skip
    go_big_quiet_skip
    go_big_quiet_skip
    go_big_quiet_want; go_big_quiet_op; first | go_big_quiet_on | (refine ⟨_, fun _ _ => rfl, ?_⟩; go_big_quiet_on)
    refine wpQuiet_nil ?_
    intro w3 hw3
    have B3 := Lib.hid hw3.out
    clear hw3 HBD0
    have co0 := (BO.out.on B3.out).cell 0
    have co1 := (BO.out.on B3.out).cell 1
    have co2 := (BO.out.on B3.out).cell 2
    have co3 := (BO.out.on B3.out).cell 3
    simp at co0 co1 co2 co3
    have f0 := (BO.out.on B3.out).frozen 0
    have f1 := (BO.out.on B3.out).frozen 1
    have f2 := (BO.out.on B3.out).frozen 2
    have f3 := (BO.out.on B3.out).frozen 3
    have FF := Lib.hid (FIN.out _ B3.out)
    go_wp2
    refine bodyPost_ret (v := .tuple #[.agg #[.int .i64 0, .slice none 0 0, .int .i64 0, .slice none 0 0], .bool false]) ?_ rfl ?_
    · simp [results, Tryd.results43, go_sem, co0, co1, co2, co3]
    · unfold OfPost
      rw [HX.out]
      exact ⟨_, _, rfl, World.ownsRow_nil _ _ _ _, World.ownsRow_nil _ _ _ _, fun k hk => (by cases hk), (by first | exact below_set4 FF.out (by omega) | exact FF.out)⟩
  by_cases hpq : p = q
  rotate_left
  · have HX := Lib.hid (show ofT p g q h known further ask = false from hb)
    go_enter Tryd.func43, Tryd.ntmps43
    go_wp2_with fail
    refine wp_region_cls (C := fun w' => Hid (Below W.heap.size W w')) (by kernel_rfl) (by kernel_rfl) HBD0 ?_
    go_big_quiet_want
    go_big_quiet_op
    refine ⟨.agg #[.int .i64 p, (.slice ga gn gc)], fun w' hw' => ?_, ?_⟩
    · have q := BG.out.on hw'.out
      have q0 := q.cell 0
      have q1 := q.cell 1
      simp at q0 q1
      simp [go_sem, q0, q1]
    go_big_quiet_on
    go_big_quiet_want; go_big_quiet_op
    go_big_quiet_call ((intro hw; exact (sgk_is k1 (HG.out _ hw.out) HP.out HSG.out).mono fun _ _ ⟨he, hb⟩ => ⟨he, Lib.hid (Below.on hw.out hb)⟩))
    go_big_quiet_want; go_big_quiet_op; first | go_big_quiet_on | (refine ⟨_, fun _ _ => rfl, ?_⟩; go_big_quiet_on)
    go_big_quiet_want; go_big_quiet_op; first | go_big_quiet_on | (refine ⟨_, fun _ _ => rfl, ?_⟩; go_big_quiet_on)
    go_big_quiet_want
    go_big_quiet_op
    refine ⟨.agg #[.int .i64 q, (.slice ha hn hk)], fun w' hw' => ?_, ?_⟩
    · have q := BH.out.on hw'.out
      have q0 := q.cell 0
      have q1 := q.cell 1
      simp at q0 q1
      simp [go_sem, q0, q1]
    go_big_quiet_on
    go_big_quiet_want; go_big_quiet_op
    go_big_quiet_call ((intro hw; exact (sgk_is k2 (HH.out _ hw.out) HQ.out HSH.out).mono fun _ _ ⟨he, hb⟩ => ⟨he, Lib.hid (Below.on hw.out hb)⟩))
    go_big_quiet_want; go_big_quiet_op; first | go_big_quiet_on | (refine ⟨_, fun _ _ => rfl, ?_⟩; go_big_quiet_on)
    go_big_quiet_want; go_big_quiet_op; first | go_big_quiet_on | (refine ⟨_, fun _ _ => rfl, ?_⟩; go_big_quiet_on)
    go_big_quiet_want; go_big_quiet_op; first | go_big_quiet_on | (refine ⟨_, fun _ _ => rfl, ?_⟩; go_big_quiet_on)
    go_big_quiet_want; go_big_quiet_op; first | go_big_quiet_on | (refine ⟨_, fun _ _ => rfl, ?_⟩; go_big_quiet_on)
    go_big_quiet_want
    go_big_quiet_op
    refine ⟨.int .i64 p, fun w' hw' => ?_, ?_⟩
    · have q := BG.out.on hw'.out
      have q0 := q.cell 0
      simp at q0
      simp [go_sem, q0]
    go_big_quiet_on
    go_big_quiet_want; go_big_quiet_op; first | go_big_quiet_on | (refine ⟨_, fun _ _ => rfl, ?_⟩; go_big_quiet_on)
    go_big_quiet_want
    go_big_quiet_op
    refine ⟨.int .i64 q, fun w' hw' => ?_, ?_⟩
    · have q := BH.out.on hw'.out
      have q0 := q.cell 0
      simp at q0
      simp [go_sem, q0]
    go_big_quiet_on
    go_big_quiet_want
    go_big_quiet_op
    refine ⟨.bool true, fun w' hw' => ?_, ?_⟩
    · simp [go_sem, hpq]
    go_big_quiet_on
    go_big_quiet_want; go_big_quiet_op; first | go_big_quiet_on | (refine ⟨_, fun _ _ => rfl, ?_⟩; go_big_quiet_on)
    go_big_quiet_want; go_big_quiet_op; first | go_big_quiet_on | (refine ⟨_, fun _ _ => rfl, ?_⟩; go_big_quiet_on)
    go_big_quiet_skip
    go_big_quiet_skip
    go_big_quiet_skip
    go_big_quiet_skip
    go_big_quiet_skip
    go_big_quiet_want; go_big_quiet_op; first | go_big_quiet_on | (refine ⟨_, fun _ _ => rfl, ?_⟩; go_big_quiet_on)
    go_big_quiet_want; go_big_quiet_op; first | go_big_quiet_on | (refine ⟨_, fun _ _ => rfl, ?_⟩; go_big_quiet_on)
    go_big_quiet_skip
    go_big_quiet_skip
    go_big_quiet_skip
    go_big_quiet_skip
    go_big_quiet_skip
    go_big_quiet_want; go_big_quiet_op; first | go_big_quiet_on | (refine ⟨_, fun _ _ => rfl, ?_⟩; go_big_quiet_on)
    go_big_quiet_want; go_big_quiet_op; first | go_big_quiet_on | (refine ⟨_, fun _ _ => rfl, ?_⟩; go_big_quiet_on)
    go_big_quiet_skip
    go_big_quiet_skip
    go_big_quiet_skip
    go_big_quiet_want; go_big_quiet_op; first | go_big_quiet_on | (refine ⟨_, fun _ _ => rfl, ?_⟩; go_big_quiet_on)
    go_big_quiet_want; go_big_quiet_op; first | go_big_quiet_on | (refine ⟨_, fun _ _ => rfl, ?_⟩; go_big_quiet_on)
    go_big_quiet_skip
    go_big_quiet_skip
    go_big_quiet_skip
    go_big_quiet_skip
    go_big_quiet_skip
    go_big_quiet_skip
    go_big_quiet_want; go_big_quiet_op; first | go_big_quiet_on | (refine ⟨_, fun _ _ => rfl, ?_⟩; go_big_quiet_on)
    refine wpQuiet_nil ?_
    intro w3 hw3
    have B3 := Lib.hid hw3.out
    clear hw3 HBD0
    have co0 := (BO.out.on B3.out).cell 0
    have co1 := (BO.out.on B3.out).cell 1
    have co2 := (BO.out.on B3.out).cell 2
    have co3 := (BO.out.on B3.out).cell 3
    simp at co0 co1 co2 co3
    have f0 := (BO.out.on B3.out).frozen 0
    have f1 := (BO.out.on B3.out).frozen 1
    have f2 := (BO.out.on B3.out).frozen 2
    have f3 := (BO.out.on B3.out).frozen 3
    have FF := Lib.hid (FIN.out _ B3.out)
    go_wp2
    refine bodyPost_ret (v := .tuple #[.agg #[.int .i64 0, .slice none 0 0, .int .i64 0, .slice none 0 0], .bool false]) ?_ rfl ?_
    · simp [results, Tryd.results43, go_sem, co0, co1, co2, co3]
    · unfold OfPost
      rw [HX.out]
      exact ⟨_, _, rfl, World.ownsRow_nil _ _ _ _, World.ownsRow_nil _ _ _ _, fun k hk => (by cases hk), (by first | exact below_set4 FF.out (by omega) | exact FF.out)⟩
  subst hpq
  cases k3 : odB known p
  · have HX := Lib.hid (show ofT p g p h known further ask = false from hb)
    go_enter Tryd.func43, Tryd.ntmps43
    go_wp2_with fail
    refine wp_region_cls (C := fun w' => Hid (Below W.heap.size W w')) (by kernel_rfl) (by kernel_rfl) HBD0 ?_
    go_big_quiet_want
    go_big_quiet_op
    refine ⟨.agg #[.int .i64 p, (.slice ga gn gc)], fun w' hw' => ?_, ?_⟩
    · have q := BG.out.on hw'.out
      have q0 := q.cell 0
      have q1 := q.cell 1
      simp at q0 q1
      simp [go_sem, q0, q1]
    go_big_quiet_on
    go_big_quiet_want; go_big_quiet_op
    go_big_quiet_call ((intro hw; exact (sgk_is k1 (HG.out _ hw.out) HP.out HSG.out).mono fun _ _ ⟨he, hb⟩ => ⟨he, Lib.hid (Below.on hw.out hb)⟩))
    go_big_quiet_want; go_big_quiet_op; first | go_big_quiet_on | (refine ⟨_, fun _ _ => rfl, ?_⟩; go_big_quiet_on)
    go_big_quiet_want; go_big_quiet_op; first | go_big_quiet_on | (refine ⟨_, fun _ _ => rfl, ?_⟩; go_big_quiet_on)
    go_big_quiet_want
    go_big_quiet_op
    refine ⟨.agg #[.int .i64 p, (.slice ha hn hk)], fun w' hw' => ?_, ?_⟩
    · have q := BH.out.on hw'.out
      have q0 := q.cell 0
      have q1 := q.cell 1
      simp at q0 q1
      simp [go_sem, q0, q1]
    go_big_quiet_on
    go_big_quiet_want; go_big_quiet_op
    go_big_quiet_call ((intro hw; exact (sgk_is k2 (HH.out _ hw.out) HQ.out HSH.out).mono fun _ _ ⟨he, hb⟩ => ⟨he, Lib.hid (Below.on hw.out hb)⟩))
    go_big_quiet_want; go_big_quiet_op; first | go_big_quiet_on | (refine ⟨_, fun _ _ => rfl, ?_⟩; go_big_quiet_on)
    go_big_quiet_want; go_big_quiet_op; first | go_big_quiet_on | (refine ⟨_, fun _ _ => rfl, ?_⟩; go_big_quiet_on)
    go_big_quiet_want; go_big_quiet_op; first | go_big_quiet_on | (refine ⟨_, fun _ _ => rfl, ?_⟩; go_big_quiet_on)
    go_big_quiet_want; go_big_quiet_op; first | go_big_quiet_on | (refine ⟨_, fun _ _ => rfl, ?_⟩; go_big_quiet_on)
    go_big_quiet_want
    go_big_quiet_op
    refine ⟨.int .i64 p, fun w' hw' => ?_, ?_⟩
    · have q := BG.out.on hw'.out
      have q0 := q.cell 0
      simp at q0
      simp [go_sem, q0]
    go_big_quiet_on
    go_big_quiet_want; go_big_quiet_op; first | go_big_quiet_on | (refine ⟨_, fun _ _ => rfl, ?_⟩; go_big_quiet_on)
    go_big_quiet_want
    go_big_quiet_op
    refine ⟨.int .i64 p, fun w' hw' => ?_, ?_⟩
    · have q := BH.out.on hw'.out
      have q0 := q.cell 0
      simp at q0
      simp [go_sem, q0]
    go_big_quiet_on
    go_big_quiet_want
    go_big_quiet_op
    refine ⟨.bool false, fun w' hw' => ?_, ?_⟩
    · simp [go_sem]
    go_big_quiet_on
    go_big_quiet_want; go_big_quiet_op; first | go_big_quiet_on | (refine ⟨_, fun _ _ => rfl, ?_⟩; go_big_quiet_on)
    go_big_quiet_want; go_big_quiet_op; first | go_big_quiet_on | (refine ⟨_, fun _ _ => rfl, ?_⟩; go_big_quiet_on)
    go_big_quiet_want; go_big_quiet_op; first | go_big_quiet_on | (refine ⟨_, fun _ _ => rfl, ?_⟩; go_big_quiet_on)
    go_big_quiet_want; go_big_quiet_op; first | go_big_quiet_on | (refine ⟨_, fun _ _ => rfl, ?_⟩; go_big_quiet_on)
    go_big_quiet_want
    go_big_quiet_op
    refine ⟨.int .i64 p, fun w' hw' => ?_, ?_⟩
    · have q := BG.out.on hw'.out
      have q0 := q.cell 0
      simp at q0
      simp [go_sem, q0]
    go_big_quiet_on
    go_big_quiet_want; go_big_quiet_op
    go_big_quiet_call ((intro hw; exact (sod_is k3 (HK.out _ hw.out)).mono fun _ _ ⟨he, hb⟩ => ⟨he, Lib.hid (Below.on hw.out hb)⟩))
    go_big_quiet_want; go_big_quiet_op; first | go_big_quiet_on | (refine ⟨_, fun _ _ => rfl, ?_⟩; go_big_quiet_on)
    go_big_quiet_want; go_big_quiet_op; first | go_big_quiet_on | (refine ⟨_, fun _ _ => rfl, ?_⟩; go_big_quiet_on)
    go_big_quiet_want; go_big_quiet_op; first | go_big_quiet_on | (refine ⟨_, fun _ _ => rfl, ?_⟩; go_big_quiet_on)
    go_big_quiet_skip
    go_big_quiet_skip
    go_big_quiet_skip
    go_big_quiet_skip
    go_big_quiet_skip
    go_big_quiet_want; go_big_quiet_op; first | go_big_quiet_on | (refine ⟨_, fun _ _ => rfl, ?_⟩; go_big_quiet_on)
    go_big_quiet_want; go_big_quiet_op; first | go_big_quiet_on | (refine ⟨_, fun _ _ => rfl, ?_⟩; go_big_quiet_on)
    go_big_quiet_skip
    go_big_quiet_skip
    go_big_quiet_skip
    go_big_quiet_want; go_big_quiet_op; first | go_big_quiet_on | (refine ⟨_, fun _ _ => rfl, ?_⟩; go_big_quiet_on)
    go_big_quiet_want; go_big_quiet_op; first | go_big_quiet_on | (refine ⟨_, fun _ _ => rfl, ?_⟩; go_big_quiet_on)
    go_big_quiet_skip
    go_big_quiet_skip
    go_big_quiet_skip
    go_big_quiet_skip
    go_big_quiet_skip
    go_big_quiet_skip
    go_big_quiet_want; go_big_quiet_op; first | go_big_quiet_on | (refine ⟨_, fun _ _ => rfl, ?_⟩; go_big_quiet_on)
    refine wpQuiet_nil ?_
    intro w3 hw3
    have B3 := Lib.hid hw3.out
    clear hw3 HBD0
    have co0 := (BO.out.on B3.out).cell 0
    have co1 := (BO.out.on B3.out).cell 1
    have co2 := (BO.out.on B3.out).cell 2
    have co3 := (BO.out.on B3.out).cell 3
    simp at co0 co1 co2 co3
    have f0 := (BO.out.on B3.out).frozen 0
    have f1 := (BO.out.on B3.out).frozen 1
    have f2 := (BO.out.on B3.out).frozen 2
    have f3 := (BO.out.on B3.out).frozen 3
    have FF := Lib.hid (FIN.out _ B3.out)
    go_wp2
    refine bodyPost_ret (v := .tuple #[.agg #[.int .i64 0, .slice none 0 0, .int .i64 0, .slice none 0 0], .bool false]) ?_ rfl ?_
    · simp [results, Tryd.results43, go_sem, co0, co1, co2, co3]
    · unfold OfPost
      rw [HX.out]
      exact ⟨_, _, rfl, World.ownsRow_nil _ _ _ _, World.ownsRow_nil _ _ _ _, fun k hk => (by cases hk), (by first | exact below_set4 FF.out (by omega) | exact FF.out)⟩
  cases k4 : odB further p
  · have HX := Lib.hid (show ofT p g p h known further ask = false from hb)
    go_enter Tryd.func43, Tryd.ntmps43
    go_wp2_with fail
    refine wp_region_cls (C := fun w' => Hid (Below W.heap.size W w')) (by kernel_rfl) (by kernel_rfl) HBD0 ?_
    go_big_quiet_want
    go_big_quiet_op
    refine ⟨.agg #[.int .i64 p, (.slice ga gn gc)], fun w' hw' => ?_, ?_⟩
    · have q := BG.out.on hw'.out
      have q0 := q.cell 0
      have q1 := q.cell 1
      simp at q0 q1
      simp [go_sem, q0, q1]
    go_big_quiet_on
    go_big_quiet_want; go_big_quiet_op
    go_big_quiet_call ((intro hw; exact (sgk_is k1 (HG.out _ hw.out) HP.out HSG.out).mono fun _ _ ⟨he, hb⟩ => ⟨he, Lib.hid (Below.on hw.out hb)⟩))
    go_big_quiet_want; go_big_quiet_op; first | go_big_quiet_on | (refine ⟨_, fun _ _ => rfl, ?_⟩; go_big_quiet_on)
    go_big_quiet_want; go_big_quiet_op; first | go_big_quiet_on | (refine ⟨_, fun _ _ => rfl, ?_⟩; go_big_quiet_on)
    go_big_quiet_want
    go_big_quiet_op
    refine ⟨.agg #[.int .i64 p, (.slice ha hn hk)], fun w' hw' => ?_, ?_⟩
    · have q := BH.out.on hw'.out
      have q0 := q.cell 0
      have q1 := q.cell 1
      simp at q0 q1
      simp [go_sem, q0, q1]
    go_big_quiet_on
    go_big_quiet_want; go_big_quiet_op
    go_big_quiet_call ((intro hw; exact (sgk_is k2 (HH.out _ hw.out) HQ.out HSH.out).mono fun _ _ ⟨he, hb⟩ => ⟨he, Lib.hid (Below.on hw.out hb)⟩))
    go_big_quiet_want; go_big_quiet_op; first | go_big_quiet_on | (refine ⟨_, fun _ _ => rfl, ?_⟩; go_big_quiet_on)
    go_big_quiet_want; go_big_quiet_op; first | go_big_quiet_on | (refine ⟨_, fun _ _ => rfl, ?_⟩; go_big_quiet_on)
    go_big_quiet_want; go_big_quiet_op; first | go_big_quiet_on | (refine ⟨_, fun _ _ => rfl, ?_⟩; go_big_quiet_on)
    go_big_quiet_want; go_big_quiet_op; first | go_big_quiet_on | (refine ⟨_, fun _ _ => rfl, ?_⟩; go_big_quiet_on)
    go_big_quiet_want
    go_big_quiet_op
    refine ⟨.int .i64 p, fun w' hw' => ?_, ?_⟩
    · have q := BG.out.on hw'.out
      have q0 := q.cell 0
      simp at q0
      simp [go_sem, q0]
    go_big_quiet_on
    go_big_quiet_want; go_big_quiet_op; first | go_big_quiet_on | (refine ⟨_, fun _ _ => rfl, ?_⟩; go_big_quiet_on)
    go_big_quiet_want
    go_big_quiet_op
    refine ⟨.int .i64 p, fun w' hw' => ?_, ?_⟩
    · have q := BH.out.on hw'.out
      have q0 := q.cell 0
      simp at q0
      simp [go_sem, q0]
    go_big_quiet_on
    go_big_quiet_want
    go_big_quiet_op
    refine ⟨.bool false, fun w' hw' => ?_, ?_⟩
    · simp [go_sem]
    go_big_quiet_on
    go_big_quiet_want; go_big_quiet_op; first | go_big_quiet_on | (refine ⟨_, fun _ _ => rfl, ?_⟩; go_big_quiet_on)
    go_big_quiet_want; go_big_quiet_op; first | go_big_quiet_on | (refine ⟨_, fun _ _ => rfl, ?_⟩; go_big_quiet_on)
    go_big_quiet_want; go_big_quiet_op; first | go_big_quiet_on | (refine ⟨_, fun _ _ => rfl, ?_⟩; go_big_quiet_on)
    go_big_quiet_want; go_big_quiet_op; first | go_big_quiet_on | (refine ⟨_, fun _ _ => rfl, ?_⟩; go_big_quiet_on)
    go_big_quiet_want
    go_big_quiet_op
    refine ⟨.int .i64 p, fun w' hw' => ?_, ?_⟩
    · have q := BG.out.on hw'.out
      have q0 := q.cell 0
      simp at q0
      simp [go_sem, q0]
    go_big_quiet_on
    go_big_quiet_want; go_big_quiet_op
    go_big_quiet_call ((intro hw; exact (sod_is k3 (HK.out _ hw.out)).mono fun _ _ ⟨he, hb⟩ => ⟨he, Lib.hid (Below.on hw.out hb)⟩))
    go_big_quiet_want; go_big_quiet_op; first | go_big_quiet_on | (refine ⟨_, fun _ _ => rfl, ?_⟩; go_big_quiet_on)
    go_big_quiet_want; go_big_quiet_op; first | go_big_quiet_on | (refine ⟨_, fun _ _ => rfl, ?_⟩; go_big_quiet_on)
    go_big_quiet_want; go_big_quiet_op; first | go_big_quiet_on | (refine ⟨_, fun _ _ => rfl, ?_⟩; go_big_quiet_on)
    go_big_quiet_want; go_big_quiet_op; first | go_big_quiet_on | (refine ⟨_, fun _ _ => rfl, ?_⟩; go_big_quiet_on)
    go_big_quiet_want; go_big_quiet_op; first | go_big_quiet_on | (refine ⟨_, fun _ _ => rfl, ?_⟩; go_big_quiet_on)
    go_big_quiet_want
    go_big_quiet_op
    refine ⟨.int .i64 p, fun w' hw' => ?_, ?_⟩
    · have q := BG.out.on hw'.out
      have q0 := q.cell 0
      simp at q0
      simp [go_sem, q0]
    go_big_quiet_on
    go_big_quiet_want; go_big_quiet_op
    go_big_quiet_call ((intro hw; exact (sod_is k4 (HF.out _ hw.out)).mono fun _ _ ⟨he, hb⟩ => ⟨he, Lib.hid (Below.on hw.out hb)⟩))
    go_big_quiet_want; go_big_quiet_op; first | go_big_quiet_on | (refine ⟨_, fun _ _ => rfl, ?_⟩; go_big_quiet_on)
    go_big_quiet_want; go_big_quiet_op; first | go_big_quiet_on | (refine ⟨_, fun _ _ => rfl, ?_⟩; go_big_quiet_on)
    go_big_quiet_want; go_big_quiet_op; first | go_big_quiet_on | (refine ⟨_, fun _ _ => rfl, ?_⟩; go_big_quiet_on)
    go_big_quiet_skip
    go_big_quiet_skip
    go_big_quiet_skip
    go_big_quiet_want; go_big_quiet_op; first | go_big_quiet_on | (refine ⟨_, fun _ _ => rfl, ?_⟩; go_big_quiet_on)
    go_big_quiet_want; go_big_quiet_op; first | go_big_quiet_on | (refine ⟨_, fun _ _ => rfl, ?_⟩; go_big_quiet_on)
    go_big_quiet_skip
    go_big_quiet_skip
    go_big_quiet_skip
    go_big_quiet_skip
    go_big_quiet_skip
    go_big_quiet_skip
    go_big_quiet_want; go_big_quiet_op; first | go_big_quiet_on | (refine ⟨_, fun _ _ => rfl, ?_⟩; go_big_quiet_on)
    refine wpQuiet_nil ?_
    intro w3 hw3
    have B3 := Lib.hid hw3.out
    clear hw3 HBD0
    have co0 := (BO.out.on B3.out).cell 0
    have co1 := (BO.out.on B3.out).cell 1
    have co2 := (BO.out.on B3.out).cell 2
    have co3 := (BO.out.on B3.out).cell 3
    simp at co0 co1 co2 co3
    have f0 := (BO.out.on B3.out).frozen 0
    have f1 := (BO.out.on B3.out).frozen 1
    have f2 := (BO.out.on B3.out).frozen 2
    have f3 := (BO.out.on B3.out).frozen 3
    have FF := Lib.hid (FIN.out _ B3.out)
    go_wp2
    refine bodyPost_ret (v := .tuple #[.agg #[.int .i64 0, .slice none 0 0, .int .i64 0, .slice none 0 0], .bool false]) ?_ rfl ?_
    · simp [results, Tryd.results43, go_sem, co0, co1, co2, co3]
    · unfold OfPost
      rw [HX.out]
      exact ⟨_, _, rfl, World.ownsRow_nil _ _ _ _, World.ownsRow_nil _ _ _ _, fun k hk => (by cases hk), (by first | exact below_set4 FF.out (by omega) | exact FF.out)⟩
  cases k5 : (decide (0 ≤ ask) && decide (ask ≤ 1))
  · have HX := Lib.hid (show ofT p g p h known further ask = false from hb)
    go_enter Tryd.func43, Tryd.ntmps43
    go_wp2_with fail
    refine wp_region_cls (C := fun w' => Hid (Below W.heap.size W w')) (by kernel_rfl) (by kernel_rfl) HBD0 ?_
    go_big_quiet_want
    go_big_quiet_op
    refine ⟨.agg #[.int .i64 p, (.slice ga gn gc)], fun w' hw' => ?_, ?_⟩
    · have q := BG.out.on hw'.out
      have q0 := q.cell 0
      have q1 := q.cell 1
      simp at q0 q1
      simp [go_sem, q0, q1]
    go_big_quiet_on
    go_big_quiet_want; go_big_quiet_op
    go_big_quiet_call ((intro hw; exact (sgk_is k1 (HG.out _ hw.out) HP.out HSG.out).mono fun _ _ ⟨he, hb⟩ => ⟨he, Lib.hid (Below.on hw.out hb)⟩))
    go_big_quiet_want; go_big_quiet_op; first | go_big_quiet_on | (refine ⟨_, fun _ _ => rfl, ?_⟩; go_big_quiet_on)
    go_big_quiet_want; go_big_quiet_op; first | go_big_quiet_on | (refine ⟨_, fun _ _ => rfl, ?_⟩; go_big_quiet_on)
    go_big_quiet_want
    go_big_quiet_op
    refine ⟨.agg #[.int .i64 p, (.slice ha hn hk)], fun w' hw' => ?_, ?_⟩
    · have q := BH.out.on hw'.out
      have q0 := q.cell 0
      have q1 := q.cell 1
      simp at q0 q1
      simp [go_sem, q0, q1]
    go_big_quiet_on
    go_big_quiet_want; go_big_quiet_op
    go_big_quiet_call ((intro hw; exact (sgk_is k2 (HH.out _ hw.out) HQ.out HSH.out).mono fun _ _ ⟨he, hb⟩ => ⟨he, Lib.hid (Below.on hw.out hb)⟩))
    go_big_quiet_want; go_big_quiet_op; first | go_big_quiet_on | (refine ⟨_, fun _ _ => rfl, ?_⟩; go_big_quiet_on)
    go_big_quiet_want; go_big_quiet_op; first | go_big_quiet_on | (refine ⟨_, fun _ _ => rfl, ?_⟩; go_big_quiet_on)
    go_big_quiet_want; go_big_quiet_op; first | go_big_quiet_on | (refine ⟨_, fun _ _ => rfl, ?_⟩; go_big_quiet_on)
    go_big_quiet_want; go_big_quiet_op; first | go_big_quiet_on | (refine ⟨_, fun _ _ => rfl, ?_⟩; go_big_quiet_on)
    go_big_quiet_want
    go_big_quiet_op
    refine ⟨.int .i64 p, fun w' hw' => ?_, ?_⟩
    · have q := BG.out.on hw'.out
      have q0 := q.cell 0
      simp at q0
      simp [go_sem, q0]
    go_big_quiet_on
    go_big_quiet_want; go_big_quiet_op; first | go_big_quiet_on | (refine ⟨_, fun _ _ => rfl, ?_⟩; go_big_quiet_on)
    go_big_quiet_want
    go_big_quiet_op
    refine ⟨.int .i64 p, fun w' hw' => ?_, ?_⟩
    · have q := BH.out.on hw'.out
      have q0 := q.cell 0
      simp at q0
      simp [go_sem, q0]
    go_big_quiet_on
    go_big_quiet_want
    go_big_quiet_op
    refine ⟨.bool false, fun w' hw' => ?_, ?_⟩
    · simp [go_sem]
    go_big_quiet_on
    go_big_quiet_want; go_big_quiet_op; first | go_big_quiet_on | (refine ⟨_, fun _ _ => rfl, ?_⟩; go_big_quiet_on)
    go_big_quiet_want; go_big_quiet_op; first | go_big_quiet_on | (refine ⟨_, fun _ _ => rfl, ?_⟩; go_big_quiet_on)
    go_big_quiet_want; go_big_quiet_op; first | go_big_quiet_on | (refine ⟨_, fun _ _ => rfl, ?_⟩; go_big_quiet_on)
    go_big_quiet_want; go_big_quiet_op; first | go_big_quiet_on | (refine ⟨_, fun _ _ => rfl, ?_⟩; go_big_quiet_on)
    go_big_quiet_want
    go_big_quiet_op
    refine ⟨.int .i64 p, fun w' hw' => ?_, ?_⟩
    · have q := BG.out.on hw'.out
      have q0 := q.cell 0
      simp at q0
      simp [go_sem, q0]
    go_big_quiet_on
    go_big_quiet_want; go_big_quiet_op
    go_big_quiet_call ((intro hw; exact (sod_is k3 (HK.out _ hw.out)).mono fun _ _ ⟨he, hb⟩ => ⟨he, Lib.hid (Below.on hw.out hb)⟩))
    go_big_quiet_want; go_big_quiet_op; first | go_big_quiet_on | (refine ⟨_, fun _ _ => rfl, ?_⟩; go_big_quiet_on)
    go_big_quiet_want; go_big_quiet_op; first | go_big_quiet_on | (refine ⟨_, fun _ _ => rfl, ?_⟩; go_big_quiet_on)
    go_big_quiet_want; go_big_quiet_op; first | go_big_quiet_on | (refine ⟨_, fun _ _ => rfl, ?_⟩; go_big_quiet_on)
    go_big_quiet_want; go_big_quiet_op; first | go_big_quiet_on | (refine ⟨_, fun _ _ => rfl, ?_⟩; go_big_quiet_on)
    go_big_quiet_want; go_big_quiet_op; first | go_big_quiet_on | (refine ⟨_, fun _ _ => rfl, ?_⟩; go_big_quiet_on)
    go_big_quiet_want
    go_big_quiet_op
    refine ⟨.int .i64 p, fun w' hw' => ?_, ?_⟩
    · have q := BG.out.on hw'.out
      have q0 := q.cell 0
      simp at q0
      simp [go_sem, q0]
    go_big_quiet_on
    go_big_quiet_want; go_big_quiet_op
    go_big_quiet_call ((intro hw; exact (sod_is k4 (HF.out _ hw.out)).mono fun _ _ ⟨he, hb⟩ => ⟨he, Lib.hid (Below.on hw.out hb)⟩))
    go_big_quiet_want; go_big_quiet_op; first | go_big_quiet_on | (refine ⟨_, fun _ _ => rfl, ?_⟩; go_big_quiet_on)
    go_big_quiet_want; go_big_quiet_op; first | go_big_quiet_on | (refine ⟨_, fun _ _ => rfl, ?_⟩; go_big_quiet_on)
    go_big_quiet_want; go_big_quiet_op; first | go_big_quiet_on | (refine ⟨_, fun _ _ => rfl, ?_⟩; go_big_quiet_on)
    go_big_quiet_want; go_big_quiet_op; first | go_big_quiet_on | (refine ⟨_, fun _ _ => rfl, ?_⟩; go_big_quiet_on)
    go_big_quiet_want; go_big_quiet_op
    go_big_quiet_call ((intro hw; exact (l1In_tb k5 _).mono fun _ _ ⟨he, hb⟩ => ⟨he, by rw [← hb]; exact hw⟩))
    go_big_quiet_want; go_big_quiet_op; first | go_big_quiet_on | (refine ⟨_, fun _ _ => rfl, ?_⟩; go_big_quiet_on)
    go_big_quiet_want; go_big_quiet_op; first | go_big_quiet_on | (refine ⟨_, fun _ _ => rfl, ?_⟩; go_big_quiet_on)
    go_big_quiet_want; go_big_quiet_op; first | go_big_quiet_on | (refine ⟨_, fun _ _ => rfl, ?_⟩; go_big_quiet_on)
    go_big_quiet_skip
    go_big_quiet_skip
    go_big_quiet_skip
    go_big_quiet_skip
    go_big_quiet_skip
    go_big_quiet_skip
    go_big_quiet_want; go_big_quiet_op; first | go_big_quiet_on | (refine ⟨_, fun _ _ => rfl, ?_⟩; go_big_quiet_on)
    refine wpQuiet_nil ?_
    intro w3 hw3
    have B3 := Lib.hid hw3.out
    clear hw3 HBD0
    have co0 := (BO.out.on B3.out).cell 0
    have co1 := (BO.out.on B3.out).cell 1
    have co2 := (BO.out.on B3.out).cell 2
    have co3 := (BO.out.on B3.out).cell 3
    simp at co0 co1 co2 co3
    have f0 := (BO.out.on B3.out).frozen 0
    have f1 := (BO.out.on B3.out).frozen 1
    have f2 := (BO.out.on B3.out).frozen 2
    have f3 := (BO.out.on B3.out).frozen 3
    have FF := Lib.hid (FIN.out _ B3.out)
    go_wp2
    refine bodyPost_ret (v := .tuple #[.agg #[.int .i64 0, .slice none 0 0, .int .i64 0, .slice none 0 0], .bool false]) ?_ rfl ?_
    · simp [results, Tryd.results43, go_sem, co0, co1, co2, co3]
    · unfold OfPost
      rw [HX.out]
      exact ⟨_, _, rfl, World.ownsRow_nil _ _ _ _, World.ownsRow_nil _ _ _ _, fun k hk => (by cases hk), (by first | exact below_set4 FF.out (by omega) | exact FF.out)⟩
  have hl : leads g h known = false := by
    cases hl : leads g h known
    · rfl
    · exact absurd (show ofT p g p h known further ask = true by
        have k6 := k5
        rw [Bool.and_eq_true] at k6
        unfold ofT btB; rw [k1, k2, k3, k4, hl, k6.1, k6.2]; simp) (by rw [hb]; decide)
  have HX := Lib.hid (show ofT p g p h known further ask = false from hb)
  have HL := Lib.hid hl
  have HGK := Lib.hid (gkB_true.1 k1)
  have HKD := Lib.hid (odB_true.1 k3)
  clear hl hb
  have HBD : Hid (My W (mov known g) none (((w.alloc (.cells #[.int .i64 p, (.slice ga gn gc)] 25)).alloc (.cells #[.int .i64 p, (.slice ha hn hk)] 25)).alloc (.cells #[.int .i64 0, .slice none 0 0, .int .i64 0, .slice none 0 0] 50)).drew) := Lib.hid ⟨HBD0.out, fun v e => by cases e⟩
  clear HBD0
  go_enter Tryd.func43, Tryd.ntmps43
  go_wp2_with fail
  apply wp_region_H (Z := Option Value) (S := fun k => k == 37 || k == 39 || k == 40 || k == 41) (C := fun z w' => Hid (My W (mov known g) z w')) [0, 1, 2, 3, 4, 5, 6, 7, 8, 9, 10, 11, 12, 13, 14, 15, 16, 17, 18, 19, 20, 21, 22, 23, 24, 25, 26, 27, 28, 29, 30, 31, 32, 33, 34, 35, 36, 38] none
  · kernel_rfl
  · kernel_rfl
  · kernel_rfl
  · exact ⟨rfl, rfl, rfl, rfl, rfl, rfl, rfl, rfl, rfl, rfl, rfl, rfl, rfl, rfl, rfl, rfl, rfl, rfl, rfl, rfl, rfl, rfl, rfl, rfl, rfl, rfl, rfl, rfl, rfl, rfl, rfl, rfl, rfl, rfl, rfl, rfl, rfl, rfl, trivial⟩
  · rfl
  · decide
  · exact HBD
  · intro zz
    dsimp only [pickL, nthO]
    go_big_quiet_want
    go_big_quiet_op
    refine ⟨.agg #[.int .i64 p, (.slice ga gn gc)], fun w' hw' => ?_, ?_⟩
    · have q := BG.out.on hw'.out.1
      have q0 := q.cell 0
      have q1 := q.cell 1
      simp at q0 q1
      simp [go_sem, q0, q1]
    go_big_quiet_on
    go_big_quiet_want; go_big_quiet_op
    go_big_quiet_call ((intro hw; exact (sgk_is k1 (HG.out _ hw.out.1) HP.out HSG.out).mono fun _ _ ⟨he, hb⟩ => ⟨he, Lib.hid ⟨Below.on hw.out.1 hb, fun v e => hw.out.2 v e |>.below hb⟩⟩))
    go_big_quiet_want; go_big_quiet_op; first | go_big_quiet_on | (refine ⟨_, fun _ _ => rfl, ?_⟩; go_big_quiet_on)
    go_big_quiet_want; go_big_quiet_op; first | go_big_quiet_on | (refine ⟨_, fun _ _ => rfl, ?_⟩; go_big_quiet_on)
    go_big_quiet_want
    go_big_quiet_op
    refine ⟨.agg #[.int .i64 p, (.slice ha hn hk)], fun w' hw' => ?_, ?_⟩
    · have q := BH.out.on hw'.out.1
      have q0 := q.cell 0
      have q1 := q.cell 1
      simp at q0 q1
      simp [go_sem, q0, q1]
    go_big_quiet_on
    go_big_quiet_want; go_big_quiet_op
    go_big_quiet_call ((intro hw; exact (sgk_is k2 (HH.out _ hw.out.1) HQ.out HSH.out).mono fun _ _ ⟨he, hb⟩ => ⟨he, Lib.hid ⟨Below.on hw.out.1 hb, fun v e => hw.out.2 v e |>.below hb⟩⟩))
    go_big_quiet_want; go_big_quiet_op; first | go_big_quiet_on | (refine ⟨_, fun _ _ => rfl, ?_⟩; go_big_quiet_on)
    go_big_quiet_want; go_big_quiet_op; first | go_big_quiet_on | (refine ⟨_, fun _ _ => rfl, ?_⟩; go_big_quiet_on)
    go_big_quiet_want; go_big_quiet_op; first | go_big_quiet_on | (refine ⟨_, fun _ _ => rfl, ?_⟩; go_big_quiet_on)
    go_big_quiet_want; go_big_quiet_op; first | go_big_quiet_on | (refine ⟨_, fun _ _ => rfl, ?_⟩; go_big_quiet_on)
    go_big_quiet_want
    go_big_quiet_op
    refine ⟨.int .i64 p, fun w' hw' => ?_, ?_⟩
    · have q := BG.out.on hw'.out.1
      have q0 := q.cell 0
      simp at q0
      simp [go_sem, q0]
    go_big_quiet_on
    go_big_quiet_want; go_big_quiet_op; first | go_big_quiet_on | (refine ⟨_, fun _ _ => rfl, ?_⟩; go_big_quiet_on)
    go_big_quiet_want
    go_big_quiet_op
    refine ⟨.int .i64 p, fun w' hw' => ?_, ?_⟩
    · have q := BH.out.on hw'.out.1
      have q0 := q.cell 0
      simp at q0
      simp [go_sem, q0]
    go_big_quiet_on
    go_big_quiet_want
    go_big_quiet_op
    refine ⟨.bool false, fun w' hw' => ?_, ?_⟩
    · simp [go_sem]
    go_big_quiet_on
    go_big_quiet_want; go_big_quiet_op; first | go_big_quiet_on | (refine ⟨_, fun _ _ => rfl, ?_⟩; go_big_quiet_on)
    go_big_quiet_want; go_big_quiet_op; first | go_big_quiet_on | (refine ⟨_, fun _ _ => rfl, ?_⟩; go_big_quiet_on)
    go_big_quiet_want; go_big_quiet_op; first | go_big_quiet_on | (refine ⟨_, fun _ _ => rfl, ?_⟩; go_big_quiet_on)
    go_big_quiet_want; go_big_quiet_op; first | go_big_quiet_on | (refine ⟨_, fun _ _ => rfl, ?_⟩; go_big_quiet_on)
    go_big_quiet_want
    go_big_quiet_op
    refine ⟨.int .i64 p, fun w' hw' => ?_, ?_⟩
    · have q := BG.out.on hw'.out.1
      have q0 := q.cell 0
      simp at q0
      simp [go_sem, q0]
    go_big_quiet_on
    go_big_quiet_want; go_big_quiet_op
    go_big_quiet_call ((intro hw; exact (sod_is k3 (HK.out _ hw.out.1)).mono fun _ _ ⟨he, hb⟩ => ⟨he, Lib.hid ⟨Below.on hw.out.1 hb, fun v e => hw.out.2 v e |>.below hb⟩⟩))
    go_big_quiet_want; go_big_quiet_op; first | go_big_quiet_on | (refine ⟨_, fun _ _ => rfl, ?_⟩; go_big_quiet_on)
    go_big_quiet_want; go_big_quiet_op; first | go_big_quiet_on | (refine ⟨_, fun _ _ => rfl, ?_⟩; go_big_quiet_on)
    go_big_quiet_want; go_big_quiet_op; first | go_big_quiet_on | (refine ⟨_, fun _ _ => rfl, ?_⟩; go_big_quiet_on)
    go_big_quiet_want; go_big_quiet_op; first | go_big_quiet_on | (refine ⟨_, fun _ _ => rfl, ?_⟩; go_big_quiet_on)
    go_big_quiet_want; go_big_quiet_op; first | go_big_quiet_on | (refine ⟨_, fun _ _ => rfl, ?_⟩; go_big_quiet_on)
    go_big_quiet_want
    go_big_quiet_op
    refine ⟨.int .i64 p, fun w' hw' => ?_, ?_⟩
    · have q := BG.out.on hw'.out.1
      have q0 := q.cell 0
      simp at q0
      simp [go_sem, q0]
    go_big_quiet_on
    go_big_quiet_want; go_big_quiet_op
    go_big_quiet_call ((intro hw; exact (sod_is k4 (HF.out _ hw.out.1)).mono fun _ _ ⟨he, hb⟩ => ⟨he, Lib.hid ⟨Below.on hw.out.1 hb, fun v e => hw.out.2 v e |>.below hb⟩⟩))
    go_big_quiet_want; go_big_quiet_op; first | go_big_quiet_on | (refine ⟨_, fun _ _ => rfl, ?_⟩; go_big_quiet_on)
    go_big_quiet_want; go_big_quiet_op; first | go_big_quiet_on | (refine ⟨_, fun _ _ => rfl, ?_⟩; go_big_quiet_on)
    go_big_quiet_want; go_big_quiet_op; first | go_big_quiet_on | (refine ⟨_, fun _ _ => rfl, ?_⟩; go_big_quiet_on)
    go_big_quiet_want; go_big_quiet_op; first | go_big_quiet_on | (refine ⟨_, fun _ _ => rfl, ?_⟩; go_big_quiet_on)
    go_big_quiet_want; go_big_quiet_op
    go_big_quiet_call ((intro hw; exact (l1In_tb k5 _).mono fun _ _ ⟨he, hb⟩ => ⟨he, by rw [← hb]; exact hw⟩))
    go_big_quiet_want; go_big_quiet_op; first | go_big_quiet_on | (refine ⟨_, fun _ _ => rfl, ?_⟩; go_big_quiet_on)
    go_big_quiet_want; go_big_quiet_op; first | go_big_quiet_on | (refine ⟨_, fun _ _ => rfl, ?_⟩; go_big_quiet_on)
    go_big_quiet_want; go_big_quiet_op; first | go_big_quiet_on | (refine ⟨_, fun _ _ => rfl, ?_⟩; go_big_quiet_on)
    go_big_quiet_want
    go_big_quiet_op
    refine ⟨.agg #[.int .i64 p, (.slice ga gn gc)], fun w' hw' => ?_, ?_⟩
    · have q := BG.out.on hw'.out.1
      have q0 := q.cell 0
      have q1 := q.cell 1
      simp at q0 q1
      simp [go_sem, q0, q1]
    go_big_quiet_on
    go_big_quiet_want; go_big_quiet_op; first | go_big_quiet_on | (refine ⟨_, fun _ _ => rfl, ?_⟩; go_big_quiet_on)
    go_big_quiet_want
    go_big_quiet_op
    refine ⟨.agg #[.int .i64 p, (.slice ha hn hk)], fun w' hw' => ?_, ?_⟩
    · have q := BH.out.on hw'.out.1
      have q0 := q.cell 0
      have q1 := q.cell 1
      simp at q0 q1
      simp [go_sem, q0, q1]
    go_big_quiet_on
    exact wpQuiet_nil rfl
  refine wpAnyH_call (i := 37) (d := some 50) 65 #[.agg #[.int .i64 p, (.slice ga gn gc)], kv] rfl (by kernel_rfl) rfl rfl (by kernel_rfl) (fun _ => by kernel_rfl) fun wa hc => ?_
  refine (smov_any p (.slice ga gn gc) kv g known wa (HG.out _ hc.out.1) (HK.out _ hc.out.1) HGK.out HKD.out).mono ?_
  rintro e wc ⟨mv, rfl, om, hb⟩
  refine ⟨_, rfl, some mv, Lib.hid ⟨Below.on hc.out.1 hb, fun v e => by cases e; exact Ints.of_own om (by rw [mov_len HKD.out HGK.out]; exact HFG.out)⟩, ?_⟩
  clear hc om hb
  refine wpAnyH_call (i := 39) (d := some 52) 71 #[.agg #[.int .i64 p, mv], .agg #[.int .i64 p, (.slice ha hn hk)]] rfl (by kernel_rfl) rfl rfl (by kernel_rfl) (fun _ => by kernel_rfl) fun wd hc => ?_
  refine (ssg_ld HL.out (hc.out.2 mv rfl) (HH.out _ hc.out.1)).mono ?_
  rintro e we ⟨rfl, hb⟩
  refine ⟨_, rfl, none, Lib.hid ⟨Below.on hc.out.1 hb, fun v e => by cases e⟩, ?_⟩
  clear hc hb
  refine wpAnyH_special (i := 40) (d := some 53) rfl (by kernel_rfl) rfl rfl (by kernel_rfl) fun wa hc => ⟨.bool true, wa, none, .inl (by kernel_rfl), hc, ?_⟩
  clear hc
  refine wpAnyH_special (i := 41) (d := some 54) rfl (by kernel_rfl) rfl rfl (by kernel_rfl) fun wa hc => ⟨.bool true, wa, none, .inl (by kernel_rfl), hc, ?_⟩
  clear hc
  refine ⟨by kernel_rfl, fun w3 hw3 => ?_⟩
  simp only [Act.put, List.setIfInBounds_toArray, List.set_cons_succ, List.set_cons_zero]
  have B3 := Lib.hid hw3.out.1
  clear hw3 HBD
  have co0 := (BO.out.on B3.out).cell 0
  have co1 := (BO.out.on B3.out).cell 1
  have co2 := (BO.out.on B3.out).cell 2
  have co3 := (BO.out.on B3.out).cell 3
  simp at co0 co1 co2 co3
  have f0 := (BO.out.on B3.out).frozen 0
  have f1 := (BO.out.on B3.out).frozen 1
  have f2 := (BO.out.on B3.out).frozen 2
  have f3 := (BO.out.on B3.out).frozen 3
  have FF := Lib.hid (FIN.out _ B3.out)
  go_wp2
  refine bodyPost_ret (v := .tuple #[.agg #[.int .i64 0, .slice none 0 0, .int .i64 0, .slice none 0 0], .bool false]) ?_ rfl ?_
  · simp [results, Tryd.results43, go_sem, co0, co1, co2, co3]
  · unfold OfPost
    rw [HX.out]
    exact ⟨_, _, rfl, World.ownsRow_nil _ _ _ _, World.ownsRow_nil _ _ _ _, fun k hk => (by cases hk), (by first | exact below_set4 FF.out (by omega) | exact FF.out)⟩

set_option maxRecDepth 20000 in
set_option maxHeartbeats 1600000 in
theorem stof_0 (p q ask : Int) (ga ha : Option Addr) (gn gc hn hk : Nat) (kv fv : Value) (g h known further : List Int) (w : World) (hg : Ints w (.slice ga gn gc) g) (hh : Ints w (.slice ha hn hk) h) (hkn : Ints w kv known) (hf : Ints w fv further) (hp : intIn p) (hq : intIn q) (hs : ∀ j, j < g.length → intIn (nth g j)) (hs' : ∀ j, j < h.length → intIn (nth h j)) (hb : ofT p g q h known further ask = true) (hask : (ask == 1) = false) :
    Calls Tryd.prog 43 #[.agg #[.int .i64 p, (.slice ga gn gc)], .agg #[.int .i64 q, (.slice ha hn hk)], kv, fv, .int .i64 ask] w (OfPost p g q h known further ask w) := by
  have hm := ofT_true.1 hb
  obtain rfl := hm.e
  have k1 := gkB_true.2 hm.gg
  have k2 := gkB_true.2 hm.gh
  have k3 := odB_true.2 hm.ok
  have k4 := odB_true.2 hm.of
  have k5 : (decide (0 ≤ ask) && decide (ask ≤ 1)) = true := by rw [decide_eq_true hm.a0, decide_eq_true hm.a1]; rfl
  obtain ⟨ta0, tc, etv, kk⟩ := hf.opened
  obtain ⟨u, hu⟩ : ∃ u, further.length = u := ⟨_, rfl⟩
  have hu5 : 1 ≤ u ∧ u ≤ 5 := by have := hm.of.len; have := hm.gg.p1; have := hm.gg.p5; omega
  rw [hu] at etv
  obtain ⟨TL, etl, _, _⟩ := kk.get 0 (by omega)
  subst etl
  have HTC := Lib.hid (show ∀ w', Below w.heap.size w w' → ∀ j, j < u → w'.cell? ⟨TL, j, none⟩ = some (.int .i64 (nth further j)) from fun w' hb j hj => by
    obtain ⟨M, e1, hl, e2⟩ := kk.get j (by omega)
    cases e1
    exact (hb.cell (p := ⟨TL, j, none⟩) hl).trans e2)
  subst etv
  have HU := Lib.hid hu
  have HX : Hid (ofT p g p h known further ask = true ∧ toldT known further ask = further) := Lib.hid ⟨hb, by
    have ha : ask ≠ 1 := by simpa using hask
    unfold toldT
    rw [if_neg ha]⟩
  have HGK := Lib.hid hm.gg
  have HKD := Lib.hid hm.ok
  have HFD := Lib.hid hm.of
  have HL := Lib.hid (leads_true.2 hm.lead)
  have HF2 : Hid ((bkL known).length ≤ maxLen) := Lib.hid (by
    unfold bkL; split
    · rw [bck_len]; exact few_of hkn
    · simp)
  have HB3 := boxes3w (w := w) [.int .i64 p, (.slice ga gn gc)] [.int .i64 p, (.slice ha hn hk)] [.int .i64 0, .slice none 0 0, .int .i64 0, .slice none 0 0] 25 25 50
  obtain ⟨W, hWe, hWs, hW, b0, b1, b2⟩ := HB3.out
  have B0 : Hid (Below W.heap.size W (((w.alloc (.cells #[.int .i64 p, (.slice ga gn gc)] 25)).alloc (.cells #[.int .i64 p, (.slice ha hn hk)] 25)).alloc (.cells #[.int .i64 0, .slice none 0 0, .int .i64 0, .slice none 0 0] 50))) := Lib.hid (by rw [hWe]; exact Below.refl _ _)
  have HBD0 : Hid (Below W.heap.size W (((w.alloc (.cells #[.int .i64 p, (.slice ga gn gc)] 25)).alloc (.cells #[.int .i64 p, (.slice ha hn hk)] 25)).alloc (.cells #[.int .i64 0, .slice none 0 0, .int .i64 0, .slice none 0 0] 50)).drew) := Lib.hid (by rw [hWe]; exact (Below.refl _ _).drew)
  have HW := Lib.hid hW
  have HWS := Lib.hid hWs
  have BG := Lib.hid b0
  have BH := Lib.hid b1
  have BO := Lib.hid b2
  have HG := Lib.hid (show ∀ w', Below W.heap.size W w' → Ints w' (.slice ga gn gc) g from fun w' hb => (hg.below hW).below hb)
  have HH := Lib.hid (show ∀ w', Below W.heap.size W w' → Ints w' (.slice ha hn hk) h from fun w' hb => (hh.below hW).below hb)
  have HK := Lib.hid (show ∀ w', Below W.heap.size W w' → Ints w' kv known from fun w' hb => (hkn.below hW).below hb)
  have HF := Lib.hid (show ∀ w', Below W.heap.size W w' → Ints w' (.slice (some ⟨TL, 0, none⟩) u tc) further from fun w' hb => (hf.below hW).below hb)
  have HFG := Lib.hid (few_of hg)
  have HSG := Lib.hid hs
  have HSH := Lib.hid hs'
  have HP := Lib.hid hp
  have HQ := Lib.hid hq
  have FIN : Hid (∀ w', Below W.heap.size W w' → Below w.heap.size w w') := Lib.hid fun w' hb => hW.trans (hb.mono hW.size)
  clear hm hb kk hu
  clear HB3 hWe hWs hW b0 b1 b2 hg hh hkn hf hs hs' hp hq
  have HBD : Hid (My W (mov known g) none (((w.alloc (.cells #[.int .i64 p, (.slice ga gn gc)] 25)).alloc (.cells #[.int .i64 p, (.slice ha hn hk)] 25)).alloc (.cells #[.int .i64 0, .slice none 0 0, .int .i64 0, .slice none 0 0] 50)).drew) := Lib.hid ⟨HBD0.out, fun v e => by cases e⟩
  clear HBD0
  go_enter Tryd.func43, Tryd.ntmps43
  go_wp2_with fail
  apply wp_region_H (Z := Option Value) (S := fun k => k == 37 || k == 39 || k == 40 || k == 41) (C := fun z w' => Hid (My W (mov known g) z w')) [0, 1, 2, 3, 4, 5, 6, 7, 8, 9, 10, 11, 12, 13, 14, 15, 16, 17, 18, 19, 20, 21, 22, 23, 24, 25, 26, 27, 28, 29, 30, 31, 32, 33, 34, 35, 36, 38] none
  · kernel_rfl
  · kernel_rfl
  · kernel_rfl
  · exact ⟨rfl, rfl, rfl, rfl, rfl, rfl, rfl, rfl, rfl, rfl, rfl, rfl, rfl, rfl, rfl, rfl, rfl, rfl, rfl, rfl, rfl, rfl, rfl, rfl, rfl, rfl, rfl, rfl, rfl, rfl, rfl, rfl, rfl, rfl, rfl, rfl, rfl, rfl, trivial⟩
  · rfl
  · decide
  · exact HBD
  · intro zz
    dsimp only [pickL, nthO]
    go_big_quiet_want
    go_big_quiet_op
    refine ⟨.agg #[.int .i64 p, (.slice ga gn gc)], fun w' hw' => ?_, ?_⟩
    · have q := BG.out.on hw'.out.1
      have q0 := q.cell 0
      have q1 := q.cell 1
      simp at q0 q1
      simp [go_sem, q0, q1]
    go_big_quiet_on
    go_big_quiet_want; go_big_quiet_op
    go_big_quiet_call ((intro hw; exact (sgk_is k1 (HG.out _ hw.out.1) HP.out HSG.out).mono fun _ _ ⟨he, hb⟩ => ⟨he, Lib.hid ⟨Below.on hw.out.1 hb, fun v e => hw.out.2 v e |>.below hb⟩⟩))
    go_big_quiet_want; go_big_quiet_op; first | go_big_quiet_on | (refine ⟨_, fun _ _ => rfl, ?_⟩; go_big_quiet_on)
    go_big_quiet_want; go_big_quiet_op; first | go_big_quiet_on | (refine ⟨_, fun _ _ => rfl, ?_⟩; go_big_quiet_on)
    go_big_quiet_want
    go_big_quiet_op
    refine ⟨.agg #[.int .i64 p, (.slice ha hn hk)], fun w' hw' => ?_, ?_⟩
    · have q := BH.out.on hw'.out.1
      have q0 := q.cell 0
      have q1 := q.cell 1
      simp at q0 q1
      simp [go_sem, q0, q1]
    go_big_quiet_on
    go_big_quiet_want; go_big_quiet_op
    go_big_quiet_call ((intro hw; exact (sgk_is k2 (HH.out _ hw.out.1) HQ.out HSH.out).mono fun _ _ ⟨he, hb⟩ => ⟨he, Lib.hid ⟨Below.on hw.out.1 hb, fun v e => hw.out.2 v e |>.below hb⟩⟩))
    go_big_quiet_want; go_big_quiet_op; first | go_big_quiet_on | (refine ⟨_, fun _ _ => rfl, ?_⟩; go_big_quiet_on)
    go_big_quiet_want; go_big_quiet_op; first | go_big_quiet_on | (refine ⟨_, fun _ _ => rfl, ?_⟩; go_big_quiet_on)
    go_big_quiet_want; go_big_quiet_op; first | go_big_quiet_on | (refine ⟨_, fun _ _ => rfl, ?_⟩; go_big_quiet_on)
    go_big_quiet_want; go_big_quiet_op; first | go_big_quiet_on | (refine ⟨_, fun _ _ => rfl, ?_⟩; go_big_quiet_on)
    go_big_quiet_want
    go_big_quiet_op
    refine ⟨.int .i64 p, fun w' hw' => ?_, ?_⟩
    · have q := BG.out.on hw'.out.1
      have q0 := q.cell 0
      simp at q0
      simp [go_sem, q0]
    go_big_quiet_on
    go_big_quiet_want; go_big_quiet_op; first | go_big_quiet_on | (refine ⟨_, fun _ _ => rfl, ?_⟩; go_big_quiet_on)
    go_big_quiet_want
    go_big_quiet_op
    refine ⟨.int .i64 p, fun w' hw' => ?_, ?_⟩
    · have q := BH.out.on hw'.out.1
      have q0 := q.cell 0
      simp at q0
      simp [go_sem, q0]
    go_big_quiet_on
    go_big_quiet_want
    go_big_quiet_op
    refine ⟨.bool false, fun w' hw' => ?_, ?_⟩
    · simp [go_sem]
    go_big_quiet_on
    go_big_quiet_want; go_big_quiet_op; first | go_big_quiet_on | (refine ⟨_, fun _ _ => rfl, ?_⟩; go_big_quiet_on)
    go_big_quiet_want; go_big_quiet_op; first | go_big_quiet_on | (refine ⟨_, fun _ _ => rfl, ?_⟩; go_big_quiet_on)
    go_big_quiet_want; go_big_quiet_op; first | go_big_quiet_on | (refine ⟨_, fun _ _ => rfl, ?_⟩; go_big_quiet_on)
    go_big_quiet_want; go_big_quiet_op; first | go_big_quiet_on | (refine ⟨_, fun _ _ => rfl, ?_⟩; go_big_quiet_on)
    go_big_quiet_want
    go_big_quiet_op
    refine ⟨.int .i64 p, fun w' hw' => ?_, ?_⟩
    · have q := BG.out.on hw'.out.1
      have q0 := q.cell 0
      simp at q0
      simp [go_sem, q0]
    go_big_quiet_on
    go_big_quiet_want; go_big_quiet_op
    go_big_quiet_call ((intro hw; exact (sod_is k3 (HK.out _ hw.out.1)).mono fun _ _ ⟨he, hb⟩ => ⟨he, Lib.hid ⟨Below.on hw.out.1 hb, fun v e => hw.out.2 v e |>.below hb⟩⟩))
    go_big_quiet_want; go_big_quiet_op; first | go_big_quiet_on | (refine ⟨_, fun _ _ => rfl, ?_⟩; go_big_quiet_on)
    go_big_quiet_want; go_big_quiet_op; first | go_big_quiet_on | (refine ⟨_, fun _ _ => rfl, ?_⟩; go_big_quiet_on)
    go_big_quiet_want; go_big_quiet_op; first | go_big_quiet_on | (refine ⟨_, fun _ _ => rfl, ?_⟩; go_big_quiet_on)
    go_big_quiet_want; go_big_quiet_op; first | go_big_quiet_on | (refine ⟨_, fun _ _ => rfl, ?_⟩; go_big_quiet_on)
    go_big_quiet_want; go_big_quiet_op; first | go_big_quiet_on | (refine ⟨_, fun _ _ => rfl, ?_⟩; go_big_quiet_on)
    go_big_quiet_want
    go_big_quiet_op
    refine ⟨.int .i64 p, fun w' hw' => ?_, ?_⟩
    · have q := BG.out.on hw'.out.1
      have q0 := q.cell 0
      simp at q0
      simp [go_sem, q0]
    go_big_quiet_on
    go_big_quiet_want; go_big_quiet_op
    go_big_quiet_call ((intro hw; exact (sod_is k4 (HF.out _ hw.out.1)).mono fun _ _ ⟨he, hb⟩ => ⟨he, Lib.hid ⟨Below.on hw.out.1 hb, fun v e => hw.out.2 v e |>.below hb⟩⟩))
    go_big_quiet_want; go_big_quiet_op; first | go_big_quiet_on | (refine ⟨_, fun _ _ => rfl, ?_⟩; go_big_quiet_on)
    go_big_quiet_want; go_big_quiet_op; first | go_big_quiet_on | (refine ⟨_, fun _ _ => rfl, ?_⟩; go_big_quiet_on)
    go_big_quiet_want; go_big_quiet_op; first | go_big_quiet_on | (refine ⟨_, fun _ _ => rfl, ?_⟩; go_big_quiet_on)
    go_big_quiet_want; go_big_quiet_op; first | go_big_quiet_on | (refine ⟨_, fun _ _ => rfl, ?_⟩; go_big_quiet_on)
    go_big_quiet_want; go_big_quiet_op
    go_big_quiet_call ((intro hw; exact (l1In_tb k5 _).mono fun _ _ ⟨he, hb⟩ => ⟨he, by rw [← hb]; exact hw⟩))
    go_big_quiet_want; go_big_quiet_op; first | go_big_quiet_on | (refine ⟨_, fun _ _ => rfl, ?_⟩; go_big_quiet_on)
    go_big_quiet_want; go_big_quiet_op; first | go_big_quiet_on | (refine ⟨_, fun _ _ => rfl, ?_⟩; go_big_quiet_on)
    go_big_quiet_want; go_big_quiet_op; first | go_big_quiet_on | (refine ⟨_, fun _ _ => rfl, ?_⟩; go_big_quiet_on)
    go_big_quiet_want
    go_big_quiet_op
    refine ⟨.agg #[.int .i64 p, (.slice ga gn gc)], fun w' hw' => ?_, ?_⟩
    · have q := BG.out.on hw'.out.1
      have q0 := q.cell 0
      have q1 := q.cell 1
      simp at q0 q1
      simp [go_sem, q0, q1]
    go_big_quiet_on
    go_big_quiet_want; go_big_quiet_op; first | go_big_quiet_on | (refine ⟨_, fun _ _ => rfl, ?_⟩; go_big_quiet_on)
    go_big_quiet_want
    go_big_quiet_op
    refine ⟨.agg #[.int .i64 p, (.slice ha hn hk)], fun w' hw' => ?_, ?_⟩
    · have q := BH.out.on hw'.out.1
      have q0 := q.cell 0
      have q1 := q.cell 1
      simp at q0 q1
      simp [go_sem, q0, q1]
    go_big_quiet_on
    exact wpQuiet_nil rfl
  refine wpAnyH_call (i := 37) (d := some 50) 65 #[.agg #[.int .i64 p, (.slice ga gn gc)], kv] rfl (by kernel_rfl) rfl rfl (by kernel_rfl) (fun _ => by kernel_rfl) fun wa hc => ?_
  refine (smov_any p (.slice ga gn gc) kv g known wa (HG.out _ hc.out.1) (HK.out _ hc.out.1) HGK.out HKD.out).mono ?_
  rintro e wc ⟨mv, rfl, om, hb⟩
  refine ⟨_, rfl, some mv, Lib.hid ⟨Below.on hc.out.1 hb, fun v e => by cases e; exact Ints.of_own om (by rw [mov_len HKD.out HGK.out]; exact HFG.out)⟩, ?_⟩
  clear hc om hb
  refine wpAnyH_call (i := 39) (d := some 52) 71 #[.agg #[.int .i64 p, mv], .agg #[.int .i64 p, (.slice ha hn hk)]] rfl (by kernel_rfl) rfl rfl (by kernel_rfl) (fun _ => by kernel_rfl) fun wd hc => ?_
  refine (ssg_ld HL.out (hc.out.2 mv rfl) (HH.out _ hc.out.1)).mono ?_
  rintro e we ⟨rfl, hb⟩
  refine ⟨_, rfl, none, Lib.hid ⟨Below.on hc.out.1 hb, fun v e => by cases e⟩, ?_⟩
  clear hc hb
  refine wpAnyH_special (i := 40) (d := some 53) rfl (by kernel_rfl) rfl rfl (by kernel_rfl) fun wa hc => ⟨.bool false, wa, none, .inl (by kernel_rfl), hc, ?_⟩
  clear hc
  refine wpAnyH_special (i := 41) (d := some 54) rfl (by kernel_rfl) rfl rfl (by kernel_rfl) fun wa hc => ⟨.bool false, wa, none, .inl (by kernel_rfl), hc, ?_⟩
  clear hc
  refine ⟨by kernel_rfl, fun w3 hw3 => ?_⟩
  simp only [Act.put, List.setIfInBounds_toArray, List.set_cons_succ, List.set_cons_zero]
  have B3 := Lib.hid hw3.out.1
  clear hw3 HBD
  have cg0 := (BG.out.on B3.out).cell 0
  have cg1 := (BG.out.on B3.out).cell 1
  have ch0 := (BH.out.on B3.out).cell 0
  have ch1 := (BH.out.on B3.out).cell 1
  simp at cg0 cg1 ch0 ch1
  go_wp2_with fail
  refine (smov_any p (.slice ga gn gc) (.slice (some ⟨TL, 0, none⟩) u tc) g further _ (HG.out _ B3.out) (HF.out _ B3.out) HGK.out HFD.out).mono ?_
  rintro e w5 ⟨mv, rfl, om, hb⟩
  obtain ⟨va, vc, hv⟩ := om.form
  obtain ⟨n, hnn⟩ : ∃ n, (mov further g).length = n := ⟨_, rfl⟩
  rw [hnn] at hv
  subst hv
  have B5 := Lib.hid (Below.on B3.out hb)
  have OM := Lib.hid om
  have SZ : Hid (W.heap.size ≤ w3.heap.size ∧ W.heap.size ≤ w5.heap.size) := Lib.hid ⟨B3.out.size, B5.out.size⟩
  clear cg0 cg1 ch0 ch1
  clear hb om hnn
  have O2 := own_made' w5
  have HTC2 := HTC.out _ (FIN.out _ (Below.on B5.out (below_grow w5 (.cells #[] 3))))
  have hu9 : ([] : List Int).length + u < 1000000000 := by simp; omega
  go_wp2_with (at_builtin; refine wpAppInts (xs := []) (ys := further) rfl _ _ rfl rfl O2 HU.out hu9 (by simp) rfl HTC2 ?_)
  intro tv w6 o3 g3
  have O3 := Lib.hid (show Own w6 w5.heap.size tv further from o3)
  have B6 := Lib.hid ((below_grow w5 (.cells #[] 3)).grown g3 (by simp) (fun k hk => (O2.lt k hk).1))
  have BW6 := Lib.hid (Below.on B5.out B6.out)
  have OM6 := Lib.hid (own_below OM.out B6.out)
  obtain ⟨ta, tcc, htv⟩ := Own.form (show Own w6 w5.heap.size tv further from o3)
  rw [HU.out] at htv
  subst htv
  have AP : Hid (∀ k, (Value.slice va n vc).ownBlock = some k → k < w5.heap.size) := Lib.hid fun k h1 => (OM.out.lt k h1).2
  clear o3 g3 O2 HTC2 hu9
  have NN : Hid (w.heap.size + 1 + 1 < w3.heap.size ∧ w.heap.size + 1 + 1 < w5.heap.size ∧ w.heap.size ≤ w3.heap.size ∧ w.heap.size ≤ w5.heap.size ∧ w5.heap.size ≤ w6.heap.size) := Lib.hid (by have := HWS.out; have := SZ.out; have := B6.out.size; omega)
  have BX7 : Hid (Box (w6.alloc (.cells #[.int .i64 p, .slice va n vc, .int .i64 ask, .slice ta u tcc] 50)) w6.heap.size [.int .i64 p, .slice va n vc, .int .i64 ask, .slice ta u tcc]) := Lib.hid (Box.made w6 _ _)
  have G7 := Lib.hid (below_grow w6 (.cells #[.int .i64 p, .slice va n vc, .int .i64 ask, .slice ta u tcc] 50))
  have BW7 := Lib.hid (Below.on BW6.out G7.out)
  have co0 := (BO.out.on BW7.out).cell 0
  have co1 := (BO.out.on BW7.out).cell 1
  have co2 := (BO.out.on BW7.out).cell 2
  have co3 := (BO.out.on BW7.out).cell 3
  simp at co0 co1 co2 co3
  have f0 := (BO.out.on BW7.out).frozen 0
  have f1 := (BO.out.on BW7.out).frozen 1
  have f2 := (BO.out.on BW7.out).frozen 2
  have f3 := (BO.out.on BW7.out).frozen 3
  have FF := Lib.hid (FIN.out _ BW7.out)
  have OM7 := Lib.hid (own_below OM6.out G7.out)
  have O7 := Lib.hid (own_below O3.out G7.out)
  go_wp2
  refine bodyPost_ret (v := .tuple #[.agg #[.int .i64 p, .slice va n vc, .int .i64 ask, .slice ta u tcc], .bool true]) ?_ rfl ?_
  · simp [results, Tryd.results43, go_sem, co0, co1, co2, co3]
  · unfold OfPost
    rw [HX.out.1, HX.out.2]
    exact ⟨_, _, rfl, own_set4 OM7.out NN.out.1 NN.out.2.2.1, own_set4 O7.out NN.out.2.1 NN.out.2.2.2.1, fun k h1 h2 => (by have := AP.out k h1; have := (O3.out.lt k h2).1; omega), below_set4 FF.out (by omega)⟩

set_option maxRecDepth 20000 in
set_option maxHeartbeats 1600000 in
theorem stof_1 (p q ask : Int) (ga ha : Option Addr) (gn gc hn hk : Nat) (kv fv : Value) (g h known further : List Int) (w : World) (hg : Ints w (.slice ga gn gc) g) (hh : Ints w (.slice ha hn hk) h) (hkn : Ints w kv known) (hf : Ints w fv further) (hp : intIn p) (hq : intIn q) (hs : ∀ j, j < g.length → intIn (nth g j)) (hs' : ∀ j, j < h.length → intIn (nth h j)) (hb : ofT p g q h known further ask = true) (hask : (ask == 1) = true) :
    Calls Tryd.prog 43 #[.agg #[.int .i64 p, (.slice ga gn gc)], .agg #[.int .i64 q, (.slice ha hn hk)], kv, fv, .int .i64 ask] w (OfPost p g q h known further ask w) := by
  have hm := ofT_true.1 hb
  obtain rfl := hm.e
  have k1 := gkB_true.2 hm.gg
  have k2 := gkB_true.2 hm.gh
  have k3 := odB_true.2 hm.ok
  have k4 := odB_true.2 hm.of
  have k5 : (decide (0 ≤ ask) && decide (ask ≤ 1)) = true := by rw [decide_eq_true hm.a0, decide_eq_true hm.a1]; rfl
  obtain ⟨ta0, tc, etv, kk⟩ := hf.opened
  obtain ⟨u, hu⟩ : ∃ u, further.length = u := ⟨_, rfl⟩
  have hu5 : 1 ≤ u ∧ u ≤ 5 := by have := hm.of.len; have := hm.gg.p1; have := hm.gg.p5; omega
  rw [hu] at etv
  obtain ⟨TL, etl, _, _⟩ := kk.get 0 (by omega)
  subst etl
  have HTC := Lib.hid (show ∀ w', Below w.heap.size w w' → ∀ j, j < u → w'.cell? ⟨TL, j, none⟩ = some (.int .i64 (nth further j)) from fun w' hb j hj => by
    obtain ⟨M, e1, hl, e2⟩ := kk.get j (by omega)
    cases e1
    exact (hb.cell (p := ⟨TL, j, none⟩) hl).trans e2)
  subst etv
  have HU := Lib.hid hu
  have HX : Hid (ofT p g p h known further ask = true ∧ toldT known further ask = thL (bkL known) further) := Lib.hid ⟨hb, by
    have ha : ask = 1 := by simpa using hask
    unfold toldT
    rw [if_pos ha]
    have kl : known.length = further.length := by have := hm.ok.len; have := hm.of.len; omega
    have e1 : odB known known.length = true := by rw [odB_true, hm.ok.len]; exact hm.ok
    rw [bkL_yes e1, thL_yes (thB_true.2 ⟨by rw [bck_len, hm.ok.len]; exact bck_od hm.ok, by rw [bck_len, hm.ok.len]; exact hm.of⟩)]⟩
  have HGK := Lib.hid hm.gg
  have HKD := Lib.hid hm.ok
  have HFD := Lib.hid hm.of
  have HL := Lib.hid (leads_true.2 hm.lead)
  have HF2 : Hid ((bkL known).length ≤ maxLen) := Lib.hid (by
    unfold bkL; split
    · rw [bck_len]; exact few_of hkn
    · simp)
  have HB3 := boxes3w (w := w) [.int .i64 p, (.slice ga gn gc)] [.int .i64 p, (.slice ha hn hk)] [.int .i64 0, .slice none 0 0, .int .i64 0, .slice none 0 0] 25 25 50
  obtain ⟨W, hWe, hWs, hW, b0, b1, b2⟩ := HB3.out
  have B0 : Hid (Below W.heap.size W (((w.alloc (.cells #[.int .i64 p, (.slice ga gn gc)] 25)).alloc (.cells #[.int .i64 p, (.slice ha hn hk)] 25)).alloc (.cells #[.int .i64 0, .slice none 0 0, .int .i64 0, .slice none 0 0] 50))) := Lib.hid (by rw [hWe]; exact Below.refl _ _)
  have HBD0 : Hid (Below W.heap.size W (((w.alloc (.cells #[.int .i64 p, (.slice ga gn gc)] 25)).alloc (.cells #[.int .i64 p, (.slice ha hn hk)] 25)).alloc (.cells #[.int .i64 0, .slice none 0 0, .int .i64 0, .slice none 0 0] 50)).drew) := Lib.hid (by rw [hWe]; exact (Below.refl _ _).drew)
  have HW := Lib.hid hW
  have HWS := Lib.hid hWs
  have BG := Lib.hid b0
  have BH := Lib.hid b1
  have BO := Lib.hid b2
  have HG := Lib.hid (show ∀ w', Below W.heap.size W w' → Ints w' (.slice ga gn gc) g from fun w' hb => (hg.below hW).below hb)
  have HH := Lib.hid (show ∀ w', Below W.heap.size W w' → Ints w' (.slice ha hn hk) h from fun w' hb => (hh.below hW).below hb)
  have HK := Lib.hid (show ∀ w', Below W.heap.size W w' → Ints w' kv known from fun w' hb => (hkn.below hW).below hb)
  have HF := Lib.hid (show ∀ w', Below W.heap.size W w' → Ints w' (.slice (some ⟨TL, 0, none⟩) u tc) further from fun w' hb => (hf.below hW).below hb)
  have HFG := Lib.hid (few_of hg)
  have HSG := Lib.hid hs
  have HSH := Lib.hid hs'
  have HP := Lib.hid hp
  have HQ := Lib.hid hq
  have FIN : Hid (∀ w', Below W.heap.size W w' → Below w.heap.size w w') := Lib.hid fun w' hb => hW.trans (hb.mono hW.size)
  clear hm hb kk hu
  clear HB3 hWe hWs hW b0 b1 b2 hg hh hkn hf hs hs' hp hq
  have HBD : Hid (My W (mov known g) none (((w.alloc (.cells #[.int .i64 p, (.slice ga gn gc)] 25)).alloc (.cells #[.int .i64 p, (.slice ha hn hk)] 25)).alloc (.cells #[.int .i64 0, .slice none 0 0, .int .i64 0, .slice none 0 0] 50)).drew) := Lib.hid ⟨HBD0.out, fun v e => by cases e⟩
  clear HBD0
  go_enter Tryd.func43, Tryd.ntmps43
  go_wp2_with fail
  apply wp_region_H (Z := Option Value) (S := fun k => k == 37 || k == 39 || k == 40 || k == 41) (C := fun z w' => Hid (My W (mov known g) z w')) [0, 1, 2, 3, 4, 5, 6, 7, 8, 9, 10, 11, 12, 13, 14, 15, 16, 17, 18, 19, 20, 21, 22, 23, 24, 25, 26, 27, 28, 29, 30, 31, 32, 33, 34, 35, 36, 38] none
  · kernel_rfl
  · kernel_rfl
  · kernel_rfl
  · exact ⟨rfl, rfl, rfl, rfl, rfl, rfl, rfl, rfl, rfl, rfl, rfl, rfl, rfl, rfl, rfl, rfl, rfl, rfl, rfl, rfl, rfl, rfl, rfl, rfl, rfl, rfl, rfl, rfl, rfl, rfl, rfl, rfl, rfl, rfl, rfl, rfl, rfl, rfl, trivial⟩
  · rfl
  · decide
  · exact HBD
  · intro zz
    dsimp only [pickL, nthO]
    go_big_quiet_want
    go_big_quiet_op
    refine ⟨.agg #[.int .i64 p, (.slice ga gn gc)], fun w' hw' => ?_, ?_⟩
    · have q := BG.out.on hw'.out.1
      have q0 := q.cell 0
      have q1 := q.cell 1
      simp at q0 q1
      simp [go_sem, q0, q1]
    go_big_quiet_on
    go_big_quiet_want; go_big_quiet_op
    go_big_quiet_call ((intro hw; exact (sgk_is k1 (HG.out _ hw.out.1) HP.out HSG.out).mono fun _ _ ⟨he, hb⟩ => ⟨he, Lib.hid ⟨Below.on hw.out.1 hb, fun v e => hw.out.2 v e |>.below hb⟩⟩))
    go_big_quiet_want; go_big_quiet_op; first | go_big_quiet_on | (refine ⟨_, fun _ _ => rfl, ?_⟩; go_big_quiet_on)
    go_big_quiet_want; go_big_quiet_op; first | go_big_quiet_on | (refine ⟨_, fun _ _ => rfl, ?_⟩; go_big_quiet_on)
    go_big_quiet_want
    go_big_quiet_op
    refine ⟨.agg #[.int .i64 p, (.slice ha hn hk)], fun w' hw' => ?_, ?_⟩
    · have q := BH.out.on hw'.out.1
      have q0 := q.cell 0
      have q1 := q.cell 1
      simp at q0 q1
      simp [go_sem, q0, q1]
    go_big_quiet_on
    go_big_quiet_want; go_big_quiet_op
    go_big_quiet_call ((intro hw; exact (sgk_is k2 (HH.out _ hw.out.1) HQ.out HSH.out).mono fun _ _ ⟨he, hb⟩ => ⟨he, Lib.hid ⟨Below.on hw.out.1 hb, fun v e => hw.out.2 v e |>.below hb⟩⟩))
    go_big_quiet_want; go_big_quiet_op; first | go_big_quiet_on | (refine ⟨_, fun _ _ => rfl, ?_⟩; go_big_quiet_on)
    go_big_quiet_want; go_big_quiet_op; first | go_big_quiet_on | (refine ⟨_, fun _ _ => rfl, ?_⟩; go_big_quiet_on)
    go_big_quiet_want; go_big_quiet_op; first | go_big_quiet_on | (refine ⟨_, fun _ _ => rfl, ?_⟩; go_big_quiet_on)
    go_big_quiet_want; go_big_quiet_op; first | go_big_quiet_on | (refine ⟨_, fun _ _ => rfl, ?_⟩; go_big_quiet_on)
    go_big_quiet_want
    go_big_quiet_op
    refine ⟨.int .i64 p, fun w' hw' => ?_, ?_⟩
    · have q := BG.out.on hw'.out.1
      have q0 := q.cell 0
      simp at q0
      simp [go_sem, q0]
    go_big_quiet_on
    go_big_quiet_want; go_big_quiet_op; first | go_big_quiet_on | (refine ⟨_, fun _ _ => rfl, ?_⟩; go_big_quiet_on)
    go_big_quiet_want
    go_big_quiet_op
    refine ⟨.int .i64 p, fun w' hw' => ?_, ?_⟩
    · have q := BH.out.on hw'.out.1
      have q0 := q.cell 0
      simp at q0
      simp [go_sem, q0]
    go_big_quiet_on
    go_big_quiet_want
    go_big_quiet_op
    refine ⟨.bool false, fun w' hw' => ?_, ?_⟩
    · simp [go_sem]
    go_big_quiet_on
    go_big_quiet_want; go_big_quiet_op; first | go_big_quiet_on | (refine ⟨_, fun _ _ => rfl, ?_⟩; go_big_quiet_on)
    go_big_quiet_want; go_big_quiet_op; first | go_big_quiet_on | (refine ⟨_, fun _ _ => rfl, ?_⟩; go_big_quiet_on)
    go_big_quiet_want; go_big_quiet_op; first | go_big_quiet_on | (refine ⟨_, fun _ _ => rfl, ?_⟩; go_big_quiet_on)
    go_big_quiet_want; go_big_quiet_op; first | go_big_quiet_on | (refine ⟨_, fun _ _ => rfl, ?_⟩; go_big_quiet_on)
    go_big_quiet_want
    go_big_quiet_op
    refine ⟨.int .i64 p, fun w' hw' => ?_, ?_⟩
    · have q := BG.out.on hw'.out.1
      have q0 := q.cell 0
      simp at q0
      simp [go_sem, q0]
    go_big_quiet_on
    go_big_quiet_want; go_big_quiet_op
    go_big_quiet_call ((intro hw; exact (sod_is k3 (HK.out _ hw.out.1)).mono fun _ _ ⟨he, hb⟩ => ⟨he, Lib.hid ⟨Below.on hw.out.1 hb, fun v e => hw.out.2 v e |>.below hb⟩⟩))
    go_big_quiet_want; go_big_quiet_op; first | go_big_quiet_on | (refine ⟨_, fun _ _ => rfl, ?_⟩; go_big_quiet_on)
    go_big_quiet_want; go_big_quiet_op; first | go_big_quiet_on | (refine ⟨_, fun _ _ => rfl, ?_⟩; go_big_quiet_on)
    go_big_quiet_want; go_big_quiet_op; first | go_big_quiet_on | (refine ⟨_, fun _ _ => rfl, ?_⟩; go_big_quiet_on)
    go_big_quiet_want; go_big_quiet_op; first | go_big_quiet_on | (refine ⟨_, fun _ _ => rfl, ?_⟩; go_big_quiet_on)
    go_big_quiet_want; go_big_quiet_op; first | go_big_quiet_on | (refine ⟨_, fun _ _ => rfl, ?_⟩; go_big_quiet_on)
    go_big_quiet_want
    go_big_quiet_op
    refine ⟨.int .i64 p, fun w' hw' => ?_, ?_⟩
    · have q := BG.out.on hw'.out.1
      have q0 := q.cell 0
      simp at q0
      simp [go_sem, q0]
    go_big_quiet_on
    go_big_quiet_want; go_big_quiet_op
    go_big_quiet_call ((intro hw; exact (sod_is k4 (HF.out _ hw.out.1)).mono fun _ _ ⟨he, hb⟩ => ⟨he, Lib.hid ⟨Below.on hw.out.1 hb, fun v e => hw.out.2 v e |>.below hb⟩⟩))
    go_big_quiet_want; go_big_quiet_op; first | go_big_quiet_on | (refine ⟨_, fun _ _ => rfl, ?_⟩; go_big_quiet_on)
    go_big_quiet_want; go_big_quiet_op; first | go_big_quiet_on | (refine ⟨_, fun _ _ => rfl, ?_⟩; go_big_quiet_on)
    go_big_quiet_want; go_big_quiet_op; first | go_big_quiet_on | (refine ⟨_, fun _ _ => rfl, ?_⟩; go_big_quiet_on)
    go_big_quiet_want; go_big_quiet_op; first | go_big_quiet_on | (refine ⟨_, fun _ _ => rfl, ?_⟩; go_big_quiet_on)
    go_big_quiet_want; go_big_quiet_op
    go_big_quiet_call ((intro hw; exact (l1In_tb k5 _).mono fun _ _ ⟨he, hb⟩ => ⟨he, by rw [← hb]; exact hw⟩))
    go_big_quiet_want; go_big_quiet_op; first | go_big_quiet_on | (refine ⟨_, fun _ _ => rfl, ?_⟩; go_big_quiet_on)
    go_big_quiet_want; go_big_quiet_op; first | go_big_quiet_on | (refine ⟨_, fun _ _ => rfl, ?_⟩; go_big_quiet_on)
    go_big_quiet_want; go_big_quiet_op; first | go_big_quiet_on | (refine ⟨_, fun _ _ => rfl, ?_⟩; go_big_quiet_on)
    go_big_quiet_want
    go_big_quiet_op
    refine ⟨.agg #[.int .i64 p, (.slice ga gn gc)], fun w' hw' => ?_, ?_⟩
    · have q := BG.out.on hw'.out.1
      have q0 := q.cell 0
      have q1 := q.cell 1
      simp at q0 q1
      simp [go_sem, q0, q1]
    go_big_quiet_on
    go_big_quiet_want; go_big_quiet_op; first | go_big_quiet_on | (refine ⟨_, fun _ _ => rfl, ?_⟩; go_big_quiet_on)
    go_big_quiet_want
    go_big_quiet_op
    refine ⟨.agg #[.int .i64 p, (.slice ha hn hk)], fun w' hw' => ?_, ?_⟩
    · have q := BH.out.on hw'.out.1
      have q0 := q.cell 0
      have q1 := q.cell 1
      simp at q0 q1
      simp [go_sem, q0, q1]
    go_big_quiet_on
    exact wpQuiet_nil rfl
  refine wpAnyH_call (i := 37) (d := some 50) 65 #[.agg #[.int .i64 p, (.slice ga gn gc)], kv] rfl (by kernel_rfl) rfl rfl (by kernel_rfl) (fun _ => by kernel_rfl) fun wa hc => ?_
  refine (smov_any p (.slice ga gn gc) kv g known wa (HG.out _ hc.out.1) (HK.out _ hc.out.1) HGK.out HKD.out).mono ?_
  rintro e wc ⟨mv, rfl, om, hb⟩
  refine ⟨_, rfl, some mv, Lib.hid ⟨Below.on hc.out.1 hb, fun v e => by cases e; exact Ints.of_own om (by rw [mov_len HKD.out HGK.out]; exact HFG.out)⟩, ?_⟩
  clear hc om hb
  refine wpAnyH_call (i := 39) (d := some 52) 71 #[.agg #[.int .i64 p, mv], .agg #[.int .i64 p, (.slice ha hn hk)]] rfl (by kernel_rfl) rfl rfl (by kernel_rfl) (fun _ => by kernel_rfl) fun wd hc => ?_
  refine (ssg_ld HL.out (hc.out.2 mv rfl) (HH.out _ hc.out.1)).mono ?_
  rintro e we ⟨rfl, hb⟩
  refine ⟨_, rfl, none, Lib.hid ⟨Below.on hc.out.1 hb, fun v e => by cases e⟩, ?_⟩
  clear hc hb
  refine wpAnyH_special (i := 40) (d := some 53) rfl (by kernel_rfl) rfl rfl (by kernel_rfl) fun wa hc => ⟨.bool false, wa, none, .inl (by kernel_rfl), hc, ?_⟩
  clear hc
  refine wpAnyH_special (i := 41) (d := some 54) rfl (by kernel_rfl) rfl rfl (by kernel_rfl) fun wa hc => ⟨.bool false, wa, none, .inl (by kernel_rfl), hc, ?_⟩
  clear hc
  refine ⟨by kernel_rfl, fun w3 hw3 => ?_⟩
  simp only [Act.put, List.setIfInBounds_toArray, List.set_cons_succ, List.set_cons_zero]
  have B3 := Lib.hid hw3.out.1
  clear hw3 HBD
  have cg0 := (BG.out.on B3.out).cell 0
  have cg1 := (BG.out.on B3.out).cell 1
  have ch0 := (BH.out.on B3.out).cell 0
  have ch1 := (BH.out.on B3.out).cell 1
  simp at cg0 cg1 ch0 ch1
  go_wp2_with fail
  refine (smov_any p (.slice ga gn gc) (.slice (some ⟨TL, 0, none⟩) u tc) g further _ (HG.out _ B3.out) (HF.out _ B3.out) HGK.out HFD.out).mono ?_
  rintro e w5 ⟨mv, rfl, om, hb⟩
  obtain ⟨va, vc, hv⟩ := om.form
  obtain ⟨n, hnn⟩ : ∃ n, (mov further g).length = n := ⟨_, rfl⟩
  rw [hnn] at hv
  subst hv
  have B5 := Lib.hid (Below.on B3.out hb)
  have OM := Lib.hid om
  have SZ : Hid (W.heap.size ≤ w3.heap.size ∧ W.heap.size ≤ w5.heap.size) := Lib.hid ⟨B3.out.size, B5.out.size⟩
  clear cg0 cg1 ch0 ch1
  clear hb om hnn
  have O2 := own_made' w5
  have HTC2 := HTC.out _ (FIN.out _ (Below.on B5.out (below_grow w5 (.cells #[] 3))))
  have hu9 : ([] : List Int).length + u < 1000000000 := by simp; omega
  go_wp2_with (at_builtin; refine wpAppInts (xs := []) (ys := further) rfl _ _ rfl rfl O2 HU.out hu9 (by simp) rfl HTC2 ?_)
  intro tv w6 o3 g3
  have O3 := Lib.hid (show Own w6 w5.heap.size tv further from o3)
  have B6 := Lib.hid ((below_grow w5 (.cells #[] 3)).grown g3 (by simp) (fun k hk => (O2.lt k hk).1))
  have BW6 := Lib.hid (Below.on B5.out B6.out)
  have OM6 := Lib.hid (own_below OM.out B6.out)
  obtain ⟨ta, tcc, htv⟩ := Own.form (show Own w6 w5.heap.size tv further from o3)
  rw [HU.out] at htv
  subst htv
  have AP : Hid (∀ k, (Value.slice va n vc).ownBlock = some k → k < w5.heap.size) := Lib.hid fun k h1 => (OM.out.lt k h1).2
  clear o3 g3 O2 HTC2 hu9
  have NN : Hid (w.heap.size + 1 + 1 < w3.heap.size ∧ w.heap.size + 1 + 1 < w5.heap.size ∧ w.heap.size ≤ w3.heap.size ∧ w.heap.size ≤ w5.heap.size ∧ w5.heap.size ≤ w6.heap.size) := Lib.hid (by have := HWS.out; have := SZ.out; have := B6.out.size; omega)
  have BX7 : Hid (Box (w6.alloc (.cells #[.int .i64 p, .slice va n vc, .int .i64 ask, .slice ta u tcc] 50)) w6.heap.size [.int .i64 p, .slice va n vc, .int .i64 ask, .slice ta u tcc]) := Lib.hid (Box.made w6 _ _)
  have G7 := Lib.hid (below_grow w6 (.cells #[.int .i64 p, .slice va n vc, .int .i64 ask, .slice ta u tcc] 50))
  have BW7 := Lib.hid (Below.on BW6.out G7.out)
  go_wp2_with fail
  refine (sbck_any kv known _ (HK.out _ BW7.out)).mono ?_
  rintro e w8 ⟨bv, rfl, ob, hb⟩
  have B8 := Lib.hid (Below.on BW7.out hb)
  have BX8 := Lib.hid (BX7.out.on hb)
  have OM8 := Lib.hid (own_below (own_below OM6.out G7.out) hb)
  have IB := Lib.hid (Ints.of_own ob HF2.out)
  clear hb ob
  go_wp2_with fail
  refine (sthn_any bv (.slice (some ⟨TL, 0, none⟩) u tc) (bkL known) further _ IB.out (HF.out _ B8.out)).mono ?_
  rintro e w9 ⟨nv, rfl, on, hb⟩
  obtain ⟨na, nc, hv⟩ := on.form
  obtain ⟨m, hmm⟩ : ∃ n, (thL (bkL known) further).length = n := ⟨_, rfl⟩
  rw [hmm] at hv
  subst hv
  have B9 := Lib.hid (Below.on B8.out hb)
  have X9 := BX8.out.on hb
  have x0 := X9.cell 0
  have x1 := X9.cell 1
  have x2 := X9.cell 2
  have x3 := X9.cell 3
  have y0 := X9.frozen 3
  simp at x0 x1 x2 x3
  have OM9 := Lib.hid (own_below OM8.out hb)
  have ON := Lib.hid on
  have N9 : Hid (w6.heap.size < w8.heap.size ∧ w6.heap.size < w9.heap.size) := Lib.hid ⟨BX8.out.lt, X9.lt⟩
  have BOX9 : Hid (Box (w9.setCell ⟨w6.heap.size, 3, none⟩ (.slice na m nc)) (w.heap.size + 1 + 1) [.int .i64 0, .slice none 0 0, .int .i64 0, .slice none 0 0]) := Lib.hid ((BO.out.on B9.out).far (by have := NN.out; omega) _)
  have z0 := BOX9.out.cell 0
  have z1 := BOX9.out.cell 1
  have z2 := BOX9.out.cell 2
  have z3 := BOX9.out.cell 3
  have f0 := BOX9.out.frozen 0
  have f1 := BOX9.out.frozen 1
  have f2 := BOX9.out.frozen 2
  have f3 := BOX9.out.frozen 3
  simp at z0 z1 z2 z3
  have XX := X9.set 3 (.slice na m nc)
  have x0' := XX.cell 0
  have x1' := XX.cell 1
  have x2' := XX.cell 2
  have x3' := XX.cell 3
  simp at x0' x1' x2' x3'
  have FF : Hid (Below w.heap.size w (w9.setCell ⟨w6.heap.size, 3, none⟩ (.slice na m nc))) := Lib.hid ((FIN.out _ B9.out).setCell (by have := NN.out; show w.heap.size ≤ w6.heap.size; omega) _)
  clear hb on hmm X9 XX
  go_wp2
  refine bodyPost_ret (v := .tuple #[.agg #[.int .i64 p, .slice va n vc, .int .i64 ask, .slice na m nc], .bool true]) ?_ rfl ?_
  · simp [results, Tryd.results43, go_sem, z0, z1, z2, z3]
  · unfold OfPost
    rw [HX.out.1, HX.out.2]
    have os : ∀ (B : Nat) (v : Value) (xs : List Int), Own w9 B v xs → (∀ k, v.ownBlock = some k → k ≠ w6.heap.size) → Own (w9.setCell ⟨w6.heap.size, 3, none⟩ (.slice na m nc)) B v xs := fun B v xs h hn => own_heap h fun b hb => Below.heap_setCell _ _ _ _ (hn b hb)
    exact ⟨_, _, rfl, own_set4 (os _ _ _ OM9.out fun k hk => (by have := AP.out k hk; have := NN.out; omega)) NN.out.1 NN.out.2.2.1,
      own_set4 (os _ _ _ ON.out fun k hk => (by have := (ON.out.lt k hk).1; have := N9.out; omega)) (by have := NN.out; have := N9.out; omega) (by have := NN.out; have := N9.out; omega),
      fun k h1 h2 => (by have := AP.out k h1; have := (ON.out.lt k h2).1; have := NN.out; have := N9.out; omega), below_set4 FF.out (by omega)⟩

theorem stof_any (p q ask : Int) (gv hv kv fv : Value) (g h known further : List Int) (w : World) (hg : Ints w gv g) (hh : Ints w hv h) (hkn : Ints w kv known) (hf : Ints w fv further) (hp : intIn p) (hq : intIn q) (hs : ∀ j, j < g.length → intIn (nth g j)) (hs' : ∀ j, j < h.length → intIn (nth h j)) :
    Calls Tryd.prog 43 #[.agg #[.int .i64 p, gv], .agg #[.int .i64 q, hv], kv, fv, .int .i64 ask] w (OfPost p g q h known further ask w) := by
  obtain ⟨_, _, rfl, _⟩ := hg.opened
  obtain ⟨_, _, rfl, _⟩ := hh.opened
  cases hb : ofT p g q h known further ask
  · exact stof_no p q ask _ _ _ _ _ _ kv fv g h known further w hg hh hkn hf hp hq hs hs' hb
  · cases ha : (ask == 1)
    · exact stof_0 p q ask _ _ _ _ _ _ kv fv g h known further w hg hh hkn hf hp hq hs hs' hb ha
    · exact stof_1 p q ask _ _ _ _ _ _ kv fv g h known further w hg hh hkn hf hp hq hs hs' hb ha
end Go.Proofs.YtipndddmjgjgpabDoor
