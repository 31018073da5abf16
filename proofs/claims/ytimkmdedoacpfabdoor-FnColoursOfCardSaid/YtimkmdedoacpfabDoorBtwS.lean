/- spec: l7Same, GraphMoved, OrdersBetween. -/
import Derived.Test.YtimkmdedoacpfabDoorOrdS
namespace Go.Proofs.YtimkmdedoacpfabDoor
open Go.RowKit

theorem ssg_any (p q : Int) (gv hv : Value) (g h : List Int) (w : World) (hg : Ints w gv g) (hh : Ints w hv h) :
    Calls Tryd.prog 83 #[.agg #[.int .i64 p, gv], .agg #[.int .i64 q, hv]] w fun e w' => e = .returned (.bool (decide (p = q) && sameB g h)) ∧ Below w.heap.size w w' := by
  obtain ⟨p0, p1, pl⟩ := boxes2 (P := [.int .i64 p, gv]) (R := [.int .i64 q, hv]) (Below.refl ((w.alloc (.cells #[.int .i64 p, gv] 25)).alloc (.cells #[.int .i64 q, hv] 25)).heap.size _)
  have a0 := p0.cell 0
  have a1 := p0.cell 1
  have b0 := p1.cell 0
  have b1 := p1.cell 1
  simp at a0 a1 b0 b1
  have PL := Lib.hid pl
  have HG := Lib.hid (hg.below pl)
  have HH := Lib.hid (hh.below pl)
  clear p0 p1 pl hg hh
  by_cases e : p = q
  · have HX := Lib.hid (show (decide (p = q) && sameB g h) = sameB g h from by simp [e])
    have hd : (p == q) = true := by simp [e]
    clear e
    go_enter Tryd.func83, Tryd.ntmps83
    go_wp2_with fail
    refine (ssame_any gv hv g h _ HG.out HH.out).mono ?_
    rintro e w1 ⟨rfl, hb⟩
    have B1 := Lib.hid (Below.on PL.out hb)
    clear hb a0 a1 b0 b1
    go_wp2
    go_ret
    exact ⟨by rw [HX.out]; rfl, B1.out⟩
  · have HX := Lib.hid (show (decide (p = q) && sameB g h) = false from by simp [e])
    have hd : (p == q) = false := by simp [e]
    clear e
    go_enter Tryd.func83, Tryd.ntmps83
    go_wp2
    go_ret
    exact ⟨by rw [HX.out]; rfl, PL.out⟩
theorem ssg_is {p q : Int} {gv hv : Value} {g h : List Int} {w : World} {r : Bool} (hr : (decide (p = q) && sameB g h) = r) (hg : Ints w gv g) (hh : Ints w hv h) :
    Calls Tryd.prog 83 #[.agg #[.int .i64 p, gv], .agg #[.int .i64 q, hv]] w fun e w' => e = .returned (.bool r) ∧ Below w.heap.size w w' := by rw [← hr]; exact ssg_any p q gv hv g h w hg hh

/-- GraphMoved. -/
def gmB (p : Int) (es o : List Int) : Bool := gkB p es && odB o p
def gmP (p : Int) (es o : List Int) : Int := if gmB p es o then p else 0
def gmE (p : Int) (es o : List Int) : List Int := if gmB p es o then mov o es else []
theorem gm_yes {p : Int} {es o : List Int} (h : gmB p es o = true) : gmP p es o = p ∧ gmE p es o = mov o es := by simp [gmP, gmE, h]
theorem gm_no {p : Int} {es o : List Int} (h : gmB p es o = false) : gmP p es o = 0 ∧ gmE p es o = [] := by simp [gmP, gmE, h]
theorem gmB_true {p : Int} {es o : List Int} : gmB p es o = true ↔ Gk p es ∧ Od o p := by unfold gmB; rw [Bool.and_eq_true, gkB_true, odB_true]
def GrPost (p : Int) (es : List Int) (w : World) (e : Ending) (w' : World) : Prop := ∃ v, e = .returned (.agg #[.int .i64 p, v]) ∧ Own w' w.heap.size v es ∧ Below w.heap.size w w'

end Go.Proofs.YtimkmdedoacpfabDoor
