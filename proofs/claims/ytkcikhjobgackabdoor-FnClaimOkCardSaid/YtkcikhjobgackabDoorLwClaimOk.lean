/- The law FnClaimOk, walked. -/
import Derived.Test.YtkcikhjobgackabDoorDrawF
import Derived.Test.YtkcikhjobgackabDoorLawR
import Derived.Test.YtkcikhjobgackabDoorPureW
import Derived.Test.YtkcikhjobgackabDoorMkS
import Derived.Test.YtkcikhjobgackabDoorRegionI
import Derived.Test.YtkcikhjobgackabDoorClJ
import Derived.Test.YtkcikhjobgackabDoorMkI
namespace Go.Proofs.YtkcikhjobgackabDoor
open Go.RowKit

theorem Cw.first {w : World} {ra ma : Option Addr} {rc mc n m : Nat} {rows : List (List Int)} {makes : List Int} (h : Cw w (.slice ra n rc) (.slice ma m mc) rows makes) (h1 : 0 < rows.length) (h2 : 0 < makes.length) : Cw w (.slice ra 1 rc) (.slice ma 1 mc) [row rows 0] [nth makes 0] := by
  obtain ⟨a, c, e, k⟩ := h.rows.opened
  cases e
  obtain ⟨b, d, e, k2⟩ := h.makes.opened
  cases e
  refine ⟨⟨_, _, rfl, by show 1 ≤ maxLen; decide, fun j hj => ?_⟩, ?_⟩
  · obtain rfl : j = 0 := by simp at hj; exact hj
    exact k.get 0 h1
  · obtain ⟨g, eg, hg, hc⟩ := k2.get 0 h2
    subst eg
    exact .inr ⟨g, _, rfl, by show 1 ≤ maxLen; decide, hg, fun j hj => by
      obtain rfl : j = 0 := by simp at hj; exact hj
      exact hc⟩

set_option maxHeartbeats 400000 in
theorem lClaimOk_walk (s : Value) (w : World) (h : CodeIn w s) (G : Gr w) : Calls Tryd.prog 3 #[s] w fun e w' => e = .returned (.bool true) ∧ Below w.heap.size w w' := by
  obtain ⟨a0, len0, cap0, rfl⟩ := h.slice
  have H := Lib.hid h; clear h
  have G0 := Lib.hid G; clear G
  by_cases hl : 1048576 < len0
  · go_enter Tryd.func3, Tryd.ntmps3
    go_wp2
    go_ret
    exact ⟨rfl, Below.refl _ _⟩
  go_enter Tryd.func3, Tryd.ntmps3
  go_wp2_with fail
  refine (drawClaimOk_any _ _ H.out).mono ?_
  rintro e w1 ⟨g, rv, mv, rows, makes, rfl, hcw, hbd, ⟨cp1, cp2⟩, hb⟩
  obtain ⟨ra, rc, er, _⟩ := hcw.rows.opened
  obtain ⟨ma, mc, em, _⟩ := hcw.makes.opened
  subst er em
  have B1 := Lib.hid hb
  have D := Lib.hid (show ∀ w', Below w1.heap.size w1 w' → Lw w' g (.slice ra rows.length rc) (.slice ma makes.length mc) rows makes from fun w' hb' => (Lw.mk (G0.out.on hb) hcw).on hb')
  have I1 := Lib.hid (InB.start w1 [.int .i64 g, (.slice ra rows.length rc), (.slice ma makes.length mc)] 26)
  clear hcw hb
  cases hk : clB g rows makes
  · have p0 := I1.out.box.cell 0
    have p1 := I1.out.box.cell 1
    have p2 := I1.out.box.cell 2
    simp at p0 p1 p2
    go_wp2_with fail
    refine (iclaim_any g _ _ rows makes _ (D.out _ I1.out.fin).gr (D.out _ I1.out.fin).cw).mono ?_
    rintro e w2 ⟨rfl, hb⟩
    have I2 := Lib.hid (I1.out.on hb)
    rw [hk]
    clear hb
    clear p0 p1 p2
    have p0 := I2.out.box.cell 0
    have p1 := I2.out.box.cell 1
    have p2 := I2.out.box.cell 2
    simp at p0 p1 p2
    go_wp2_with fail
    refine (sclaim_any g _ _ rows makes _ (D.out _ I2.out.fin).cw).mono ?_
    rintro e w3 ⟨rfl, hb⟩
    have I3 := Lib.hid (I2.out.on hb)
    rw [hk]
    clear hb
    clear p0 p1 p2
    go_wp2_with fail
    refine (iclaim_any 0 _ _ [] [] _ (D.out _ I3.out.fin).gr ⟨⟨none, 0, rfl, by simp, fun j hj => by simp at hj⟩, .inl ⟨rfl, rfl⟩⟩).mono ?_
    rintro e w4 ⟨rfl, hb⟩
    have I4 := Lib.hid (I3.out.on hb)
    rw [cl_none]
    clear hb
    go_wp2_with fail
    refine (alive_any _ (D.out _ I4.out.fin).gr).mono ?_
    rintro e wz_ ⟨rfl, rfl⟩
    go_wp2
    go_ret
    exact ⟨rfl, Below.on B1.out I4.out.fin⟩
  · have HF := Lib.hid (cl_first (clB_true.1 hk))
    have hcl := clB_true.1 hk
    have hr1 := hcl.r1
    have hmm := hcl.m
    clear hcl
    obtain ⟨_, _, _, cpe, c1⟩ := cp1; cases cpe
    obtain ⟨_, _, _, cpe, c2⟩ := cp2; cases cpe
    have hrc : 1 ≤ rc := by omega
    have hmc : 1 ≤ mc := by omega
    have hm1 : 0 < makes.length := by omega
    clear hmm c1 c2
    have p0 := I1.out.box.cell 0
    have p1 := I1.out.box.cell 1
    have p2 := I1.out.box.cell 2
    simp at p0 p1 p2
    go_wp2_with fail
    refine (iclaim_any g _ _ rows makes _ (D.out _ I1.out.fin).gr (D.out _ I1.out.fin).cw).mono ?_
    rintro e w2 ⟨rfl, hb⟩
    have I2 := Lib.hid (I1.out.on hb)
    rw [hk]
    clear hb
    clear p0 p1 p2
    have p0 := I2.out.box.cell 0
    have p1 := I2.out.box.cell 1
    have p2 := I2.out.box.cell 2
    simp at p0 p1 p2
    go_wp2_with fail
    refine (sclaim_any g _ _ rows makes _ (D.out _ I2.out.fin).cw).mono ?_
    rintro e w3 ⟨rfl, hb⟩
    have I3 := Lib.hid (I2.out.on hb)
    rw [hk]
    clear hb
    clear p0 p1 p2
    go_wp2_with fail
    apply wp_region_H (Z := Option Unit) (S := fun k => k == 9) (C := fun _ w' => Hid (InB w1 [.int .i64 g, (.slice ra rows.length rc), (.slice ma makes.length mc)] 26 w')) [0, 1, 2, 3, 4, 5, 6, 7, 8] none
    · kernel_rfl
    · kernel_rfl
    · kernel_rfl
    · exact ⟨rfl, rfl, rfl, rfl, rfl, rfl, rfl, rfl, rfl, trivial⟩
    · rfl
    · decide
    · exact Lib.hid (I3.out.on (Below.refl _ _).drew)
    · intro z
      dsimp only [pickL, nthO]
      repeat (first | go_big_quiet_skip | (go_big_quiet_want; go_big_quiet_op; first | go_big_quiet_on | (refine ⟨_, fun _ _ => rfl, ?_⟩; go_big_quiet_on)))
      repeat (first | go_big_quiet_skip | (go_big_quiet_want; go_big_quiet_op; first | go_big_quiet_on | (refine ⟨_, fun _ _ => rfl, ?_⟩; go_big_quiet_on)))
      go_big_quiet_want
      go_big_quiet_op
      refine ⟨.int .i64 g, fun w' hw' => ?_, ?_⟩
      · have q := hw'.out.box.cell 0
        simp at q
        simp [go_sem, q]
      go_big_quiet_on
      repeat (first | go_big_quiet_skip | (go_big_quiet_want; go_big_quiet_op; first | go_big_quiet_on | (refine ⟨_, fun _ _ => rfl, ?_⟩; go_big_quiet_on)))
      go_big_quiet_want
      go_big_quiet_op
      refine ⟨(.slice ra rows.length rc), fun w' hw' => ?_, ?_⟩
      · have q := hw'.out.box.cell 1
        simp at q
        simp [go_sem, q]
      go_big_quiet_on
      repeat (first | go_big_quiet_skip | (go_big_quiet_want; go_big_quiet_op; first | go_big_quiet_on | (refine ⟨_, fun _ _ => rfl, ?_⟩; go_big_quiet_on)))
      go_big_quiet_want
      go_big_quiet_op
      refine ⟨(.slice ma makes.length mc), fun w' hw' => ?_, ?_⟩
      · have q := hw'.out.box.cell 2
        simp at q
        simp [go_sem, q]
      go_big_quiet_on
      repeat (first | go_big_quiet_skip | (go_big_quiet_want; go_big_quiet_op; first | go_big_quiet_on | (refine ⟨_, fun _ _ => rfl, ?_⟩; go_big_quiet_on)))
      exact wpQuiet_nil rfl
    · skip
      refine wpAnyH_call (i := 9) (d := some 33) 12 #[.agg #[.int .i64 g, .slice ra 1 rc, .slice ma 1 mc]] rfl (by kernel_rfl) rfl rfl (by kernel_rfl) (fun _ => by kernel_rfl) fun wa hc => ?_
      have d := D.out _ hc.out.fin
      refine (iclaim_any g _ _ [row rows 0] [nth makes 0] _ d.gr (Cw.first d.cw hr1 hm1)).mono ?_
      rintro e wb ⟨rfl, hb⟩
      rw [HF.out]
      refine ⟨_, rfl, none, Lib.hid (hc.out.on hb), ?_⟩
      clear d hb hc
      refine wpAnyH_assign (i := 10) (d := some 2) (.tmp 33) rfl (by kernel_rfl) rfl rfl (by kernel_rfl) rfl ?_
      refine ⟨by kernel_rfl, fun wz hz => ?_⟩
      simp only [Act.put, Act.eval]
      have IZ := Lib.hid hz.out
      clear hz
      go_wp2
      go_ret
      exact ⟨rfl, Below.on B1.out IZ.out.fin⟩
end Go.Proofs.YtkcikhjobgackabDoor
