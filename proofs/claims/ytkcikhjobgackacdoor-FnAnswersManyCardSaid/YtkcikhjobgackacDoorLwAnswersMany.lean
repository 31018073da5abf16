/- The law FnAnswersMany, walked. -/
import Derived.Test.YtkcikhjobgackacDoorLawK
import Derived.Test.YtkcikhjobgackacDoorPureW
import Derived.Test.YtkcikhjobgackacDoorAnsI
import Derived.Test.YtkcikhjobgackacDoorAnsS
import Derived.Test.YtkcikhjobgackacDoorAnsP
import Derived.Test.YtkcikhjobgackacDoorSlnI
import Derived.Test.YtkcikhjobgackacDoorDrawH
namespace Go.Proofs.YtkcikhjobgackacDoor
open Go.RowKit

theorem ansM_pos {g : Int} {rows : List (List Int)} {makes says : List Int} (h : saysB g rows makes says = true) : 0 ≤ ansM g rows makes says := by
  unfold ansM; rw [if_pos h]; omega
set_option maxRecDepth 20000 in
set_option maxHeartbeats 1000000 in
theorem lAnswersMany_walk (s : Value) (w : World) (h : CodeIn w s) (G : Gr w) : Calls Tryd.prog 3 #[s] w fun e w' => e = .returned (.bool true) ∧ Below w.heap.size w w' := by
  obtain ⟨a0, len0, cap0, rfl⟩ := h.slice
  have H := Lib.hid h; clear h
  have G0 := Lib.hid G; clear G
  by_cases hl : 1048576 < len0
  · go_enter Tryd.func3, Tryd.ntmps3
    go_wp2
    go_ret
    exact ⟨rfl, Below.refl _ _⟩
  go_enter Tryd.func3, Tryd.ntmps3
  go_wp2_with fail
  refine (drawAnswersMany_any _ _ H.out).mono ?_
  rintro e w1 ⟨g, rv, mv, sv, rows, makes, says, rfl, hcw, hsv, hb⟩
  obtain ⟨ra, rc, er, _⟩ := hcw.rows.opened
  obtain ⟨ma, mc, em, _⟩ := hcw.makes.opened
  subst er em
  have B1 := Lib.hid hb
  have D := Lib.hid (show ∀ w', Below w1.heap.size w1 w' → Lw w' g (.slice ra rows.length rc) (.slice ma makes.length mc) rows makes ∧ Ints w' sv says from fun w' hb' => ⟨(Lw.mk (G0.out.on hb) hcw).on hb', hsv.below hb'⟩)
  have I1 := Lib.hid (InB.start w1 [.int .i64 g, (.slice ra rows.length rc), (.slice ma makes.length mc)] 26)
  clear hcw hb
  cases hk : saysB g rows makes says
  · have HX := Lib.hid (ansM_no hk)
    have p0 := I1.out.box.cell 0
    have p1 := I1.out.box.cell 1
    have p2 := I1.out.box.cell 2
    simp at p0 p1 p2
    go_wp2_with fail
    refine (ians_any g _ _ sv rows makes says _ (D.out _ I1.out.fin).1.gr (D.out _ I1.out.fin).1.cw (D.out _ I1.out.fin).2).mono ?_
    rintro e w2 ⟨rfl, hb⟩
    have I2 := Lib.hid (I1.out.on hb)
    rw [HX.out]
    clear hb
    clear p0 p1 p2
    have p0 := I2.out.box.cell 0
    have p1 := I2.out.box.cell 1
    have p2 := I2.out.box.cell 2
    simp at p0 p1 p2
    go_wp2_with fail
    refine (sans_any g _ _ sv rows makes says _ (D.out _ I2.out.fin).1.cw (D.out _ I2.out.fin).2).mono ?_
    rintro e w3 ⟨rfl, hb⟩
    have I3 := Lib.hid (I2.out.on hb)
    rw [HX.out]
    clear hb
    clear p0 p1 p2
    go_wp2_with fail
    refine (alive_any _ (D.out _ I3.out.fin).1.gr).mono ?_
    rintro e wz_ ⟨rfl, rfl⟩
    go_wp2
    go_ret
    exact ⟨rfl, Below.on B1.out I3.out.fin⟩
  · have hp := ansM_pos hk
    have h0 := ansM_none hk
    have h1 := ansM_some hk
    obtain ⟨v, hv⟩ : ∃ v, ansM g rows makes says = v := ⟨_, rfl⟩
    have HV := Lib.hid hv
    rw [hv] at hp h0 h1
    have hvv : (v != v) = false := by simp
    have hneg : ¬ v < 0 := by omega
    clear hv hp
    obtain ⟨N, hN⟩ : ∃ N, (sols g rows makes).length = N := ⟨_, rfl⟩
    have HNN := Lib.hid hN
    have hlen : N ≤ 600 := by rw [← hN]; exact sols_len g rows makes
    have H0 := Lib.hid h0
    have H1 := Lib.hid h1
    clear h0 h1 hN
    have p0 := I1.out.box.cell 0
    have p1 := I1.out.box.cell 1
    have p2 := I1.out.box.cell 2
    simp at p0 p1 p2
    go_wp2_with fail
    refine (ians_any g _ _ sv rows makes says _ (D.out _ I1.out.fin).1.gr (D.out _ I1.out.fin).1.cw (D.out _ I1.out.fin).2).mono ?_
    rintro e w2 ⟨rfl, hb⟩
    have I2 := Lib.hid (I1.out.on hb)
    rw [HV.out]
    clear hb
    clear p0 p1 p2
    have p0 := I2.out.box.cell 0
    have p1 := I2.out.box.cell 1
    have p2 := I2.out.box.cell 2
    simp at p0 p1 p2
    go_wp2_with fail
    refine (sans_any g _ _ sv rows makes says _ (D.out _ I2.out.fin).1.cw (D.out _ I2.out.fin).2).mono ?_
    rintro e w3 ⟨rfl, hb⟩
    have I3 := Lib.hid (I2.out.on hb)
    rw [HV.out]
    clear hb
    clear p0 p1 p2
    have p0 := I3.out.box.cell 0
    have p1 := I3.out.box.cell 1
    have p2 := I3.out.box.cell 2
    simp at p0 p1 p2
    go_wp2_with fail
    refine (isols_any g _ _ rows makes _ (D.out _ I3.out.fin).1.gr (D.out _ I3.out.fin).1.cw).mono ?_
    rintro e w4 ⟨lv, us, rfl, ol, hb⟩
    have I4 := Lib.hid (I3.out.on hb)
    have hIS := ssOf (by rw [HNN.out]; exact hlen) (sols_row g rows makes) ol
    obtain ⟨va, vc, ev9, _⟩ := hIS.opened
    rw [HNN.out] at ev9
    subst ev9
    clear hIS ol
    clear hb
    clear p0 p1 p2
    by_cases hz : N = 0
    · have hz1 : ((N : Int) == 0) = true := by simp; omega
      have hle := decide_eq_true (H0.out (List.eq_nil_of_length_eq_zero (by rw [HNN.out]; exact hz)))
      go_wp2
      go_ret
      exact ⟨rfl, Below.on B1.out I4.out.fin⟩
    · have hz1 : ((N : Int) == 0) = false := by simp; omega
      have hor := H1.out (fun h => hz (by rw [← HNN.out, h]; rfl))
      by_cases hv0 : v = 0
      · have hv1 : (v == 0) = true := by simpa using hv0
        clear hor hv0
        go_wp2
        go_ret
        exact ⟨rfl, Below.on B1.out I4.out.fin⟩
      · have hv1 : (v == 0) = false := by simpa using hv0
        have HO := Lib.hid (hor.resolve_left hv0)
        clear hor
        have p0 := I4.out.box.cell 0
        simp at p0
        go_wp2_with fail
        refine (sord_any g _).mono ?_
        rintro e w5 ⟨rfl, hb⟩
        have I5 := Lib.hid (I4.out.on hb)
        rw [← HO.out]
        clear hb
        clear p0
        have hvq : (v == v) = true := by simp
        go_wp2
        go_ret
        exact ⟨rfl, Below.on B1.out I5.out.fin⟩
end Go.Proofs.YtkcikhjobgackacDoor
