/- The law FnSolves, walked. -/
import Derived.Test.YtkcikhjobgackabDoorDrawF
import Derived.Test.YtkcikhjobgackabDoorLawR
import Derived.Test.YtkcikhjobgackabDoorPureW
import Derived.Test.YtkcikhjobgackabDoorSolI
import Derived.Test.YtkcikhjobgackabDoorMkS
import Derived.Test.YtkcikhjobgackabDoorSlnI
import Derived.Test.YtkcikhjobgackabDoorSlnS
namespace Go.Proofs.YtkcikhjobgackabDoor
open Go.RowKit

set_option maxHeartbeats 400000 in
theorem lSolves_walk (s : Value) (w : World) (h : CodeIn w s) (G : Gr w) : Calls Tryd.prog 5 #[s] w fun e w' => e = .returned (.bool true) ∧ Below w.heap.size w w' := by
  obtain ⟨a0, len0, cap0, rfl⟩ := h.slice
  have H := Lib.hid h; clear h
  have G0 := Lib.hid G; clear G
  by_cases hl : 1048576 < len0
  · go_enter Tryd.func5, Tryd.ntmps5
    go_wp2
    go_ret
    exact ⟨rfl, Below.refl _ _⟩
  go_enter Tryd.func5, Tryd.ntmps5
  go_wp2_with fail
  refine (drawSolves_any _ _ H.out).mono ?_
  rintro e w1 ⟨g, rv, mv, ev, rows, makes, es, rfl, hcw, hes, hbd, hel, hb⟩
  obtain ⟨ra, rc, er, _⟩ := hcw.rows.opened
  obtain ⟨ma, mc, em, _⟩ := hcw.makes.opened
  subst er em
  have B1 := Lib.hid hb
  have D := Lib.hid (show ∀ w', Below w1.heap.size w1 w' → Lw w' g (.slice ra rows.length rc) (.slice ma makes.length mc) rows makes ∧ Ints w' ev es from fun w' hb' => ⟨(Lw.mk (G0.out.on hb) hcw).on hb', hes.below hb'⟩)
  have I1 := Lib.hid (InB.start w1 [.int .i64 g, (.slice ra rows.length rc), (.slice ma makes.length mc)] 26)
  clear hcw hb
  cases hk : lotB g rows makes es
  · have HV := Lib.hid (solv_no hk)
    have p0 := I1.out.box.cell 0
    have p1 := I1.out.box.cell 1
    have p2 := I1.out.box.cell 2
    simp at p0 p1 p2
    go_wp2_with fail
    refine (isolv_any g _ _ ev rows makes es _ (D.out _ I1.out.fin).1.gr (D.out _ I1.out.fin).1.cw (D.out _ I1.out.fin).2).mono ?_
    rintro e w2 ⟨rfl, hb⟩
    have I2 := Lib.hid (I1.out.on hb)
    rw [HV.out]
    clear hb
    clear p0 p1 p2
    have p0 := I2.out.box.cell 0
    have p1 := I2.out.box.cell 1
    have p2 := I2.out.box.cell 2
    simp at p0 p1 p2
    go_wp2_with fail
    refine (ssolv_any g _ _ ev rows makes es _ (D.out _ I2.out.fin).1.cw (D.out _ I2.out.fin).2).mono ?_
    rintro e w3 ⟨rfl, hb⟩
    have I3 := Lib.hid (I2.out.on hb)
    rw [HV.out]
    clear hb
    clear p0 p1 p2
    have HR := Lib.hid (rmk_no hk)
    have p0 := I3.out.box.cell 0
    have p1 := I3.out.box.cell 1
    have p2 := I3.out.box.cell 2
    simp at p0 p1 p2
    go_wp2_with fail
    refine (irmk_any g _ _ ev rows makes es _ (D.out _ I3.out.fin).1.gr (D.out _ I3.out.fin).1.cw (D.out _ I3.out.fin).2).mono ?_
    rintro e w4 ⟨rv2, rfl, ho, hb⟩
    have I4 := Lib.hid (I3.out.on hb)
    rw [HR.out] at ho
    obtain ⟨xa, xc, ex⟩ := Own.form ho
    subst ex
    clear ho
    clear hb
    clear p0 p1 p2
    go_wp2_with fail
    refine (alive_any _ (D.out _ I4.out.fin).1.gr).mono ?_
    rintro e wz_ ⟨rfl, rfl⟩
    go_wp2
    go_ret
    exact ⟨rfl, Below.on B1.out I4.out.fin⟩
  · have HV := Lib.hid (solv_yes hk)
    have HR := Lib.hid (rmk_yes hk)
    have hcl := (lotB_true.1 hk).cl
    have hr1 := hcl.r1
    have hr3 := hcl.r3
    have HML := Lib.hid (mkAll_len g rows es)
    obtain ⟨b, hb0⟩ : ∃ b, sameB (mkAll g rows es) makes = b := ⟨_, rfl⟩
    have HB := Lib.hid hb0
    have hbb : (b == b) = true := by simp
    have hbn : (b != b) = false := by simp
    clear hb0 hcl
    have p0 := I1.out.box.cell 0
    have p1 := I1.out.box.cell 1
    have p2 := I1.out.box.cell 2
    simp at p0 p1 p2
    go_wp2_with fail
    refine (isolv_any g _ _ ev rows makes es _ (D.out _ I1.out.fin).1.gr (D.out _ I1.out.fin).1.cw (D.out _ I1.out.fin).2).mono ?_
    rintro e w2 ⟨rfl, hb⟩
    have I2 := Lib.hid (I1.out.on hb)
    rw [HV.out, HB.out]
    clear hb
    clear p0 p1 p2
    have p0 := I2.out.box.cell 0
    have p1 := I2.out.box.cell 1
    have p2 := I2.out.box.cell 2
    simp at p0 p1 p2
    go_wp2_with fail
    refine (ssolv_any g _ _ ev rows makes es _ (D.out _ I2.out.fin).1.cw (D.out _ I2.out.fin).2).mono ?_
    rintro e w3 ⟨rfl, hb⟩
    have I3 := Lib.hid (I2.out.on hb)
    rw [HV.out, HB.out]
    clear hb
    clear p0 p1 p2
    have p0 := I3.out.box.cell 0
    have p1 := I3.out.box.cell 1
    have p2 := I3.out.box.cell 2
    simp at p0 p1 p2
    go_wp2_with fail
    refine (irmk_any g _ _ ev rows makes es _ (D.out _ I3.out.fin).1.gr (D.out _ I3.out.fin).1.cw (D.out _ I3.out.fin).2).mono ?_
    rintro e w4 ⟨rv2, rfl, ho, hb⟩
    have I4 := Lib.hid (I3.out.on hb)
    rw [HR.out] at ho
    obtain ⟨xa, xc, ex⟩ := Own.form ho
    rw [HML.out] at ex
    subst ex
    have OX := Lib.hid ho
    clear ho
    clear hb
    clear p0 p1 p2
    have p2 := I4.out.box.cell 2
    simp at p2
    go_wp2_with fail
    refine (same_b _ _ (mkAll g rows es) makes _ (Ints.of_own OX.out (by rw [HML.out]; unfold maxLen; omega)) (D.out _ I4.out.fin).1.cw.makes).mono ?_
    rintro e w5 ⟨rfl, hb⟩
    have I5 := Lib.hid (I4.out.on hb)
    rw [HB.out]
    clear hb
    clear p2
    go_wp2_with fail
    refine (alive_any _ (D.out _ I5.out.fin).1.gr).mono ?_
    rintro e wz_ ⟨rfl, rfl⟩
    go_wp2
    go_ret
    exact ⟨rfl, Below.on B1.out I5.out.fin⟩
end Go.Proofs.YtkcikhjobgackabDoor
