/- The texts of talks: spec's and impl's. -/
import Derived.Test.YtiinifcepcaonaaDoorTextS
import Derived.Test.YtiinifcepcaonaaDoorExactU
import Derived.Test.YtiinifcepcaonaaDoorShelf
namespace Go.Proofs.YtiinifcepcaonaaDoor
open Go.RowKit

def comma : ByteArray := ⟨#[44]⟩
/-- The text of three numbers. -/
def txt (s a t : Nat) : ByteArray := numT s ++ comma ++ numT a ++ comma ++ numT t
def textOf (g s a t : Int) : ByteArray := if l2B g s a t then txt s.toNat a.toNat t.toNat else ⟨#[]⟩
theorem numT_size {n : Nat} (h : n < 100) : (numT n).size ≤ 2 := by
  by_cases h1 : n < 10
  · rw [numT_one h1]; exact Nat.le_succ 1
  · rw [numT_two h1 h, numT_one (show n / 10 < 10 by omega), ByteArray.size_append]; exact Nat.le_refl 2
theorem comma_size : comma.size = 1 := rfl

set_option maxHeartbeats 800000 in
theorem stext_any (g s a t : Int) (w : World) : Calls Tryd.prog 89 #[.int .i64 g, .agg #[.int .i64 s, .int .i64 a, .int .i64 t]] w fun e w' => e = .returned (.string (textOf g s a t)) ∧ Below w.heap.size w w' := by
  cases hx : l2B g s a t
  · have HX := Lib.hid (show textOf g s a t = ⟨#[]⟩ by unfold textOf; rw [hx]; rfl)
    have HB0 := Lib.hid (Below.refl (w.heap.size + 1) (w.alloc (.cells #[.int .i64 s, .int .i64 a, .int .i64 t] 45)))
    obtain ⟨⟨c0, c1, c2⟩, _⟩ := box3 HB0.out
    go_enter Tryd.func89, Tryd.ntmps89
    go_wp2_with fail
    refine (sl2_any _ _ _ _ _).mono ?_
    rintro e w1 ⟨rfl, hb⟩
    have HB1 := Lib.hid (box_on HB0.out hb); clear hb
    go_wp2
    go_ret
    exact ⟨by rw [HX.out]; rfl, box_end HB1.out⟩
  · obtain ⟨hs, ha, ht⟩ := l2B_true.1 hx
    obtain ⟨s0, _, s1⟩ := elB_bound hs
    obtain ⟨⟨g0, g4⟩, a0, a1⟩ := exB_true.1 ha
    obtain ⟨_, t0, t1⟩ := exB_true.1 ht
    obtain ⟨o1, o2⟩ := ord_bd g0 g4
    obtain ⟨x, rfl⟩ := Int.eq_ofNat_of_zero_le (show 0 ≤ s by omega)
    obtain ⟨y, rfl⟩ := Int.eq_ofNat_of_zero_le a0
    obtain ⟨z, rfl⟩ := Int.eq_ofNat_of_zero_le t0
    have HX := Lib.hid (show textOf g x y z = numT x ++ comma ++ numT y ++ comma ++ numT z by unfold textOf; rw [hx]; rfl)
    have z1 := numT_size (show x < 100 by omega)
    have z2 := numT_size (show y < 100 by omega)
    have z3 := numT_size (show z < 100 by omega)
    have z4 : (⟨#[44]⟩ : ByteArray).size = 1 := rfl
    have HB0 := Lib.hid (Below.refl (w.heap.size + 1) (w.alloc (.cells #[.int .i64 (x : Int), .int .i64 (y : Int), .int .i64 (z : Int)] 45)))
    obtain ⟨⟨c0, c1, c2⟩, _⟩ := box3 HB0.out
    go_enter Tryd.func89, Tryd.ntmps89
    go_wp2_with fail
    refine (sl2_any _ _ _ _ _).mono ?_
    rintro e w1 ⟨rfl, hb⟩
    have M1 : Hid (Bx w (x : Int) (y : Int) (z : Int) w1) := Lib.hid (box_on HB0.out hb); clear hb c0 c1 c2
    go_wp2_with fail
    have HD : Hid (Bx w (x : Int) (y : Int) (z : Int) w1.drew) := Bx.on M1 (Below.refl _ _).drew
    refine wp_region_class (C := fun w' => Hid (Bx w (x : Int) (y : Int) (z : Int) w')) (by kernel_rfl) (by kernel_rfl) HD ?_
    repeat (first | go_big_quiet_skip | (go_big_quiet_want; go_big_quiet_op; first | go_big_quiet_on | (refine ⟨_, fun _ _ => rfl, ?_⟩; go_big_quiet_on)))
    go_big_quiet_want
    go_big_quiet_op
    refine ⟨.int .i64 x, fun w' hw' => ?_, ?_⟩
    · have q := (Bx.cells hw').1
      simp [go_sem, q]
    go_big_quiet_on
    repeat (first | go_big_quiet_skip | (go_big_quiet_want; go_big_quiet_op; first | go_big_quiet_on | (refine ⟨_, fun _ _ => rfl, ?_⟩; go_big_quiet_on)))
    go_big_quiet_want
    go_big_quiet_op
    go_big_quiet_call ((intro hw; exact (snum_any x (by omega) _).mono fun _ _ ⟨he, hb⟩ => ⟨he, Bx.on hw hb⟩))
    repeat (first | go_big_quiet_skip | (go_big_quiet_want; go_big_quiet_op; first | go_big_quiet_on | (refine ⟨_, fun _ _ => rfl, ?_⟩; go_big_quiet_on)))
    go_big_quiet_want
    go_big_quiet_op
    refine ⟨.int .i64 y, fun w' hw' => ?_, ?_⟩
    · have q := (Bx.cells hw').2.1
      simp [go_sem, q]
    go_big_quiet_on
    repeat (first | go_big_quiet_skip | (go_big_quiet_want; go_big_quiet_op; first | go_big_quiet_on | (refine ⟨_, fun _ _ => rfl, ?_⟩; go_big_quiet_on)))
    go_big_quiet_want
    go_big_quiet_op
    go_big_quiet_call ((intro hw; exact (snum_any y (by omega) _).mono fun _ _ ⟨he, hb⟩ => ⟨he, Bx.on hw hb⟩))
    repeat (first | go_big_quiet_skip | (go_big_quiet_want; go_big_quiet_op; first | go_big_quiet_on | (refine ⟨_, fun _ _ => rfl, ?_⟩; go_big_quiet_on)))
    go_big_quiet_want
    go_big_quiet_op
    refine ⟨.int .i64 z, fun w' hw' => ?_, ?_⟩
    · have q := (Bx.cells hw').2.2
      simp [go_sem, q]
    go_big_quiet_on
    repeat (first | go_big_quiet_skip | (go_big_quiet_want; go_big_quiet_op; first | go_big_quiet_on | (refine ⟨_, fun _ _ => rfl, ?_⟩; go_big_quiet_on)))
    go_big_quiet_want
    go_big_quiet_op
    go_big_quiet_call ((intro hw; exact (snum_any z (by omega) _).mono fun _ _ ⟨he, hb⟩ => ⟨he, Bx.on hw hb⟩))
    repeat (first | go_big_quiet_skip | (go_big_quiet_want; go_big_quiet_op; first | go_big_quiet_on | (refine ⟨_, fun _ _ => rfl, ?_⟩; go_big_quiet_on)))
    refine wpQuiet_nil ?_
    intro w2 M2
    clear HD
    go_wp2
    go_ret
    exact ⟨by rw [HX.out]; rfl, box_end M2.out⟩

end Go.Proofs.YtiinifcepcaonaaDoor
