/- spec.TalkOk: a region that draws its order, with loads and calls that make memory, some of them guarded: walked once in the order of the text, at a class of worlds. -/
import Derived.Test.YtacalanlepjljaaDoorTalkS
namespace Go.Proofs.YtacalanlepjljaaDoor
open Go.RowKit

/-- One walk of the text serves every order, at whatever class of worlds that the region's first world is of. -/
theorem wp_region_class {P : Program} {C : World → Prop} {id : Nat} {Q : Exit → Act → World → Prop} {a : Act} {w : World} {l : List Oper} (hm : P.follows .mixedOrders = true) (hB : Region.lexB .any l.toArray = true) (hC : C w.drew)
    (h : wpQuiet P l.toArray C (fun a' => ∀ w', C w' → Q .normal a' w') l a) : (Code.region id l.toArray true).wp P Q a w :=
  wp_region_quiet (C := C) hm hB hC (by simpa using h)

set_option maxHeartbeats 1600000 in
theorem stok_any (g key s a t : Int) (w : World) : Calls Tryd.prog 72 #[.int .i64 g, .int .i64 key, .agg #[.int .i64 s, .int .i64 a, .int .i64 t]] w fun e w' => e = .returned (.bool (tokB g key s a t)) ∧ Below w.heap.size w w' := by
  have HB0 : Hid (Bx w s a t (w.alloc (.cells #[.int .i64 s, .int .i64 a, .int .i64 t] 62)).drew) := Lib.hid (Below.refl _ _).drew
  cases hk : elB g key
  · have HX := Lib.hid (show tokB g key s a t = false by unfold tokB; rw [hk]; rfl)
    go_enter Tryd.func72, Tryd.ntmps72
    go_wp2_with fail
    refine wp_region_class (C := fun w' => Hid (Bx w s a t w')) (by kernel_rfl) (by kernel_rfl) HB0 ?_
    repeat (first | go_big_quiet_skip | (go_big_quiet_want; go_big_quiet_op; first | go_big_quiet_on | (refine ⟨_, fun _ _ => rfl, ?_⟩; go_big_quiet_on)))
    go_big_quiet_want
    go_big_quiet_op
    go_big_quiet_call ((intro hw; (have c := sel_bx g key hw; rw [hk] at c; exact c)))
    repeat (first | go_big_quiet_skip | (go_big_quiet_want; go_big_quiet_op; first | go_big_quiet_on | (refine ⟨_, fun _ _ => rfl, ?_⟩; go_big_quiet_on)))
    refine wpQuiet_nil ?_
    intro w' hw'
    go_wp2
    go_ret
    exact ⟨by rw [HX.out]; rfl, box_end hw'.out⟩
  · cases hl : l2B g s a t
    · have HX := Lib.hid (show tokB g key s a t = false by
        cases hb : tokB g key s a t
        · rfl
        · obtain ⟨_, x1, x2, x3, _⟩ := tok_yes.1 hb
          rw [l2B_true.2 ⟨x1, x2, x3⟩] at hl; cases hl)
      go_enter Tryd.func72, Tryd.ntmps72
      go_wp2_with fail
      refine wp_region_class (C := fun w' => Hid (Bx w s a t w')) (by kernel_rfl) (by kernel_rfl) HB0 ?_
      repeat (first | go_big_quiet_skip | (go_big_quiet_want; go_big_quiet_op; first | go_big_quiet_on | (refine ⟨_, fun _ _ => rfl, ?_⟩; go_big_quiet_on)))
      go_big_quiet_want
      go_big_quiet_op
      go_big_quiet_call ((intro hw; (have c := sel_bx g key hw; rw [hk] at c; exact c)))
      repeat (first | go_big_quiet_skip | (go_big_quiet_want; go_big_quiet_op; first | go_big_quiet_on | (refine ⟨_, fun _ _ => rfl, ?_⟩; go_big_quiet_on)))
      go_big_quiet_want
      go_big_quiet_op
      refine ⟨.agg #[.int .i64 s, .int .i64 a, .int .i64 t], fun w' hw' => ?_, ?_⟩
      · obtain ⟨q, q1, q2⟩ := Bx.cells hw'
        simp [go_sem, q, q1, q2]
      go_big_quiet_on
      repeat (first | go_big_quiet_skip | (go_big_quiet_want; go_big_quiet_op; first | go_big_quiet_on | (refine ⟨_, fun _ _ => rfl, ?_⟩; go_big_quiet_on)))
      go_big_quiet_want
      go_big_quiet_op
      go_big_quiet_call ((intro hw; (have c := sl2_bx g s a t hw; rw [hl] at c; exact c)))
      repeat (first | go_big_quiet_skip | (go_big_quiet_want; go_big_quiet_op; first | go_big_quiet_on | (refine ⟨_, fun _ _ => rfl, ?_⟩; go_big_quiet_on)))
      refine wpQuiet_nil ?_
      intro w' hw'
      go_wp2
      go_ret
      exact ⟨by rw [HX.out]; rfl, box_end hw'.out⟩
    · obtain ⟨g0, g4⟩ := elB_group hk
      obtain ⟨e1, _, e2⟩ := elB_bound hk
      obtain ⟨hs, ha, ht⟩ := l2B_true.1 hl
      obtain ⟨f1, _, f2⟩ := elB_bound hs
      obtain ⟨_, a0, a1⟩ := exB_true.1 ha
      obtain ⟨_, t0, t1⟩ := exB_true.1 ht
      obtain ⟨o1, o2⟩ := ord_bd g0 g4
      obtain ⟨b1, b2⟩ := bas_bd g0 g4
      obtain ⟨p1, p2⟩ := prm_bd g0 g4
      obtain ⟨r3, _, r4⟩ := elB_bound (gp_el hk a)
      have HX := Lib.hid (show tokB g key s a t = (gp g (bas g) t == s * gp g key a % prm g) by unfold tokB; rw [hk, hs, ha, ht]; rfl)
      go_enter Tryd.func72, Tryd.ntmps72
      go_wp2_with fail
      refine wp_region_class (C := fun w' => Hid (Bx w s a t w')) (by kernel_rfl) (by kernel_rfl) HB0 ?_
      repeat (first | go_big_quiet_skip | (go_big_quiet_want; go_big_quiet_op; first | go_big_quiet_on | (refine ⟨_, fun _ _ => rfl, ?_⟩; go_big_quiet_on)))
      go_big_quiet_want
      go_big_quiet_op
      go_big_quiet_call ((intro hw; (have c := sel_bx g key hw; rw [hk] at c; exact c)))
      repeat (first | go_big_quiet_skip | (go_big_quiet_want; go_big_quiet_op; first | go_big_quiet_on | (refine ⟨_, fun _ _ => rfl, ?_⟩; go_big_quiet_on)))
      go_big_quiet_want
      go_big_quiet_op
      refine ⟨.agg #[.int .i64 s, .int .i64 a, .int .i64 t], fun w' hw' => ?_, ?_⟩
      · obtain ⟨q, q1, q2⟩ := Bx.cells hw'
        simp [go_sem, q, q1, q2]
      go_big_quiet_on
      repeat (first | go_big_quiet_skip | (go_big_quiet_want; go_big_quiet_op; first | go_big_quiet_on | (refine ⟨_, fun _ _ => rfl, ?_⟩; go_big_quiet_on)))
      go_big_quiet_want
      go_big_quiet_op
      go_big_quiet_call ((intro hw; (have c := sl2_bx g s a t hw; rw [hl] at c; exact c)))
      repeat (first | go_big_quiet_skip | (go_big_quiet_want; go_big_quiet_op; first | go_big_quiet_on | (refine ⟨_, fun _ _ => rfl, ?_⟩; go_big_quiet_on)))
      go_big_quiet_want
      go_big_quiet_op
      go_big_quiet_call ((intro hw; exact sbas_bx _ hw))
      repeat (first | go_big_quiet_skip | (go_big_quiet_want; go_big_quiet_op; first | go_big_quiet_on | (refine ⟨_, fun _ _ => rfl, ?_⟩; go_big_quiet_on)))
      go_big_quiet_want
      go_big_quiet_op
      refine ⟨.int .i64 t, fun w' hw' => ?_, ?_⟩
      · have q := (Bx.cells hw').2.2
        simp [go_sem, q]
      go_big_quiet_on
      repeat (first | go_big_quiet_skip | (go_big_quiet_want; go_big_quiet_op; first | go_big_quiet_on | (refine ⟨_, fun _ _ => rfl, ?_⟩; go_big_quiet_on)))
      go_big_quiet_want
      go_big_quiet_op
      go_big_quiet_call ((intro hw; exact spow_bx _ _ _ hw g0 g4 (by omega) (by omega) (by omega) (by omega)))
      repeat (first | go_big_quiet_skip | (go_big_quiet_want; go_big_quiet_op; first | go_big_quiet_on | (refine ⟨_, fun _ _ => rfl, ?_⟩; go_big_quiet_on)))
      go_big_quiet_want
      go_big_quiet_op
      refine ⟨.int .i64 s, fun w' hw' => ?_, ?_⟩
      · have q := (Bx.cells hw').1
        simp [go_sem, q]
      go_big_quiet_on
      repeat (first | go_big_quiet_skip | (go_big_quiet_want; go_big_quiet_op; first | go_big_quiet_on | (refine ⟨_, fun _ _ => rfl, ?_⟩; go_big_quiet_on)))
      go_big_quiet_want
      go_big_quiet_op
      refine ⟨.int .i64 a, fun w' hw' => ?_, ?_⟩
      · have q := (Bx.cells hw').2.1
        simp [go_sem, q]
      go_big_quiet_on
      repeat (first | go_big_quiet_skip | (go_big_quiet_want; go_big_quiet_op; first | go_big_quiet_on | (refine ⟨_, fun _ _ => rfl, ?_⟩; go_big_quiet_on)))
      go_big_quiet_want
      go_big_quiet_op
      go_big_quiet_call ((intro hw; exact spow_bx _ _ _ hw g0 g4 (by omega) (by omega) (by omega) (by omega)))
      repeat (first | go_big_quiet_skip | (go_big_quiet_want; go_big_quiet_op; first | go_big_quiet_on | (refine ⟨_, fun _ _ => rfl, ?_⟩; go_big_quiet_on)))
      go_big_quiet_want
      go_big_quiet_op
      go_big_quiet_call ((intro hw; exact stms_bx _ _ _ hw g0 g4 (by omega) (by omega) (by omega) (by omega)))
      repeat (first | go_big_quiet_skip | (go_big_quiet_want; go_big_quiet_op; first | go_big_quiet_on | (refine ⟨_, fun _ _ => rfl, ?_⟩; go_big_quiet_on)))
      refine wpQuiet_nil ?_
      intro w' hw'
      go_wp2
      go_ret
      exact ⟨ret_bool HX.out.symm, box_end hw'.out⟩

end Go.Proofs.YtacalanlepjljaaDoor
