/- The law FnWordsOf, walked. -/
import Derived.Test.YtkcikhjobgackabDoorLawK
import Derived.Test.YtkcikhjobgackabDoorPureW
import Derived.Test.YtkcikhjobgackabDoorOfI
import Derived.Test.YtkcikhjobgackabDoorOfS
import Derived.Test.YtkcikhjobgackabDoorWokI
namespace Go.Proofs.YtkcikhjobgackabDoor
open Go.RowKit

set_option maxHeartbeats 400000 in
theorem lWordsOf_walk (s : Value) (w : World) (h : CodeIn w s) (G : Gr w) : Calls Tryd.prog 7 #[s] w fun e w' => e = .returned (.bool true) ∧ Below w.heap.size w w' := by
  obtain ⟨a0, len0, cap0, rfl⟩ := h.slice
  have H := Lib.hid h; clear h
  have G0 := Lib.hid G; clear G
  by_cases hl : 1048576 < len0
  · go_enter Tryd.func7, Tryd.ntmps7
    go_wp2
    go_ret
    exact ⟨rfl, Below.refl _ _⟩
  go_enter Tryd.func7, Tryd.ntmps7
  go_wp2_with fail
  refine (drawWordsOf_any _ _ H.out).mono ?_
  rintro e w1 ⟨g, rv, mv, ev, fv, q, rows, makes, es, fs, rfl, hcw, hes, hfs, hbd, hel, hfl, hq, hb⟩
  obtain ⟨ra, rc, er, _⟩ := hcw.rows.opened
  obtain ⟨ma, mc, em, _⟩ := hcw.makes.opened
  subst er em
  have B1 := Lib.hid hb
  have D := Lib.hid (show ∀ w', Below w1.heap.size w1 w' → Lw w' g (.slice ra rows.length rc) (.slice ma makes.length mc) rows makes ∧ Ints w' ev es ∧ Ints w' fv fs from fun w' hb' => ⟨(Lw.mk (G0.out.on hb) hcw).on hb', hes.below hb', hfs.below hb'⟩)
  have I1 := Lib.hid (InB.start w1 [.int .i64 g, (.slice ra rows.length rc), (.slice ma makes.length mc)] 26)
  clear hcw hb
  cases hF : ofB g rows makes es fs q
  · have HQ := Lib.hid (show wdQ false q = 0 from rfl)
    have hqq : (0 == 0) = true := by simp
    have p0 := I1.out.box.cell 0
    have p1 := I1.out.box.cell 1
    have p2 := I1.out.box.cell 2
    simp at p0 p1 p2
    go_wp2_with fail
    refine (iof_any g _ _ ev fv q rows makes es fs _ (D.out _ I1.out.fin).1.gr (D.out _ I1.out.fin).1.cw (D.out _ I1.out.fin).2.1 (D.out _ I1.out.fin).2.2).mono ?_
    rintro e w2 ⟨sva, tva, rfl, o0, hb⟩
    rw [hF] at o0 ⊢
    rw [HQ.out]
    have o1 : OwnW w2 _ w2.heap.size sva tva [] [] := o0
    clear o0
    obtain ⟨saa, sca, e1⟩ := Own.form o1.s
    obtain ⟨taa, tca, e2⟩ := Own.form o1.t
    rw [List.length_nil] at e1
    rw [List.length_nil] at e2
    subst e1 e2
    have Fa := Lib.hid (show ∀ w', Below w2.heap.size w2 w' → Ints w' (.slice saa 0 sca) [] ∧ Ints w' (.slice taa 0 tca) [] from fun w' hb' => ⟨(Ints.of_own o1.s (by rw [List.length_nil]; exact Nat.zero_le _)).below hb', (Ints.of_own o1.t (by rw [List.length_nil]; exact Nat.zero_le _)).below hb'⟩)
    have I2 := Lib.hid (I1.out.on hb)
    clear o1
    clear p0 p1 p2
    clear hb
    have p0 := (I2.out.box.alloc (.cells #[.slice saa 0 sca, .int .i64 0, .slice taa 0 tca] 44)).cell 0
    have p1 := (I2.out.box.alloc (.cells #[.slice saa 0 sca, .int .i64 0, .slice taa 0 tca] 44)).cell 1
    have p2 := (I2.out.box.alloc (.cells #[.slice saa 0 sca, .int .i64 0, .slice taa 0 tca] 44)).cell 2
    simp at p0 p1 p2
    go_wp2_with fail
    refine (sof_any g _ _ ev fv q rows makes es fs _ (D.out _ (I2.out.on (below_grow _ _)).fin).1.cw (D.out _ (I2.out.on (below_grow _ _)).fin).2.1 (D.out _ (I2.out.on (below_grow _ _)).fin).2.2).mono ?_
    rintro e w3 ⟨svb, tvb, rfl, o0, hb⟩
    rw [hF] at o0 ⊢
    rw [HQ.out]
    have o1 : OwnW w3 _ w3.heap.size svb tvb [] [] := o0
    clear o0
    obtain ⟨sab, scb, e1⟩ := Own.form o1.s
    obtain ⟨tab, tcb, e2⟩ := Own.form o1.t
    rw [List.length_nil] at e1
    rw [List.length_nil] at e2
    subst e1 e2
    have Fb := Lib.hid (show ∀ w', Below w3.heap.size w3 w' → Ints w' (.slice sab 0 scb) [] ∧ Ints w' (.slice tab 0 tcb) [] from fun w' hb' => ⟨(Ints.of_own o1.s (by rw [List.length_nil]; exact Nat.zero_le _)).below hb', (Ints.of_own o1.t (by rw [List.length_nil]; exact Nat.zero_le _)).below hb'⟩)
    have I3 := Lib.hid ((I2.out.on (below_grow _ _)).on hb)
    clear o1
    clear p0 p1 p2
    have XA := Lib.hid ((Box.made w2 [.slice saa 0 sca, .int .i64 0, .slice taa 0 tca] 44).on hb)
    have KA := Lib.hid (Below.on (below_grow w2 (.cells #[.slice saa 0 sca, .int .i64 0, .slice taa 0 tca] 44)) hb)
    clear hb
    have a0 := (XA.out.alloc (.cells #[.slice sab 0 scb, .int .i64 0, .slice tab 0 tcb] 44)).cell 0
    have a1 := (XA.out.alloc (.cells #[.slice sab 0 scb, .int .i64 0, .slice tab 0 tcb] 44)).cell 1
    have a2 := (XA.out.alloc (.cells #[.slice sab 0 scb, .int .i64 0, .slice tab 0 tcb] 44)).cell 2
    simp at a0 a1 a2
    go_wp2_with fail
    refine (samew_any 0 _ _ _ _ [] [] [] _ (Fa.out _ (Below.on KA.out (below_grow _ _))).1 (Fa.out _ (Below.on KA.out (below_grow _ _))).2 (Fb.out _ (below_grow _ _)).1 (Fb.out _ (below_grow _ _)).2).mono ?_
    rintro e w4 ⟨rfl, hb⟩
    rw [sameB_refl]
    have I4 := Lib.hid ((I3.out.on (below_grow _ _)).on hb)
    have XA4 := Lib.hid ((XA.out.alloc (.cells #[.slice sab 0 scb, .int .i64 0, .slice tab 0 tcb] 44)).on hb)
    have KA4 := Lib.hid (Below.on KA.out (Below.on (below_grow _ _) hb))
    clear hb a0 a1 a2 XA
    have a0 := XA4.out.cell 0
    simp at a0
    go_wp2_with fail
    refine (alive_any _ (D.out _ I4.out.fin).1.gr).mono ?_
    rintro e wz_ ⟨rfl, rfl⟩
    go_wp2
    go_ret
    exact ⟨rfl, Below.on B1.out I4.out.fin⟩
  · obtain ⟨hl1, hl2, hqe⟩ := ofB_parts hF
    have hsv : mkAll g rows es = makes := by have h := hF; unfold ofB at h; simp only [Bool.and_eq_true] at h; exact (solv_true.1 h.1).2
    have HW := Lib.hid (words_ok hl1 hsv hl2 hqe)
    have HN := Lib.hid (mkAll_len g rows fs)
    have HT := Lib.hid (show (tellsAll g es fs q).length = es.length from tellsTo_len _ _ _ _ _)
    have hr3 := hl1.cl.r3
    have hr1 := hl1.cl.r1
    clear hl1 hl2 hsv
    have HQ := Lib.hid (show wdQ true q = q from rfl)
    have hqq : (q == q) = true := by simp
    have p0 := I1.out.box.cell 0
    have p1 := I1.out.box.cell 1
    have p2 := I1.out.box.cell 2
    simp at p0 p1 p2
    go_wp2_with fail
    refine (iof_any g _ _ ev fv q rows makes es fs _ (D.out _ I1.out.fin).1.gr (D.out _ I1.out.fin).1.cw (D.out _ I1.out.fin).2.1 (D.out _ I1.out.fin).2.2).mono ?_
    rintro e w2 ⟨sva, tva, rfl, o0, hb⟩
    rw [hF] at o0 ⊢
    rw [HQ.out]
    have o1 : OwnW w2 _ w2.heap.size sva tva (mkAll g rows fs) (tellsAll g es fs q) := o0
    clear o0
    obtain ⟨saa, sca, e1⟩ := Own.form o1.s
    obtain ⟨taa, tca, e2⟩ := Own.form o1.t
    rw [HN.out] at e1
    rw [HT.out] at e2
    subst e1 e2
    have Fa := Lib.hid (show ∀ w', Below w2.heap.size w2 w' → Ints w' (.slice saa rows.length sca) (mkAll g rows fs) ∧ Ints w' (.slice taa es.length tca) (tellsAll g es fs q) from fun w' hb' => ⟨(Ints.of_own o1.s (by rw [HN.out]; unfold maxLen; omega)).below hb', (Ints.of_own o1.t (by rw [HT.out]; unfold maxLen; omega)).below hb'⟩)
    have I2 := Lib.hid (I1.out.on hb)
    clear o1
    clear p0 p1 p2
    clear hb
    have p0 := (I2.out.box.alloc (.cells #[.slice saa rows.length sca, .int .i64 q, .slice taa es.length tca] 44)).cell 0
    have p1 := (I2.out.box.alloc (.cells #[.slice saa rows.length sca, .int .i64 q, .slice taa es.length tca] 44)).cell 1
    have p2 := (I2.out.box.alloc (.cells #[.slice saa rows.length sca, .int .i64 q, .slice taa es.length tca] 44)).cell 2
    simp at p0 p1 p2
    go_wp2_with fail
    refine (sof_any g _ _ ev fv q rows makes es fs _ (D.out _ (I2.out.on (below_grow _ _)).fin).1.cw (D.out _ (I2.out.on (below_grow _ _)).fin).2.1 (D.out _ (I2.out.on (below_grow _ _)).fin).2.2).mono ?_
    rintro e w3 ⟨svb, tvb, rfl, o0, hb⟩
    rw [hF] at o0 ⊢
    rw [HQ.out]
    have o1 : OwnW w3 _ w3.heap.size svb tvb (mkAll g rows fs) (tellsAll g es fs q) := o0
    clear o0
    obtain ⟨sab, scb, e1⟩ := Own.form o1.s
    obtain ⟨tab, tcb, e2⟩ := Own.form o1.t
    rw [HN.out] at e1
    rw [HT.out] at e2
    subst e1 e2
    have Fb := Lib.hid (show ∀ w', Below w3.heap.size w3 w' → Ints w' (.slice sab rows.length scb) (mkAll g rows fs) ∧ Ints w' (.slice tab es.length tcb) (tellsAll g es fs q) from fun w' hb' => ⟨(Ints.of_own o1.s (by rw [HN.out]; unfold maxLen; omega)).below hb', (Ints.of_own o1.t (by rw [HT.out]; unfold maxLen; omega)).below hb'⟩)
    have I3 := Lib.hid ((I2.out.on (below_grow _ _)).on hb)
    clear o1
    clear p0 p1 p2
    have XA := Lib.hid ((Box.made w2 [.slice saa rows.length sca, .int .i64 q, .slice taa es.length tca] 44).on hb)
    have KA := Lib.hid (Below.on (below_grow w2 (.cells #[.slice saa rows.length sca, .int .i64 q, .slice taa es.length tca] 44)) hb)
    clear hb
    have a0 := (XA.out.alloc (.cells #[.slice sab rows.length scb, .int .i64 q, .slice tab es.length tcb] 44)).cell 0
    have a1 := (XA.out.alloc (.cells #[.slice sab rows.length scb, .int .i64 q, .slice tab es.length tcb] 44)).cell 1
    have a2 := (XA.out.alloc (.cells #[.slice sab rows.length scb, .int .i64 q, .slice tab es.length tcb] 44)).cell 2
    simp at a0 a1 a2
    go_wp2_with fail
    refine (samew_any q _ _ _ _ (mkAll g rows fs) (mkAll g rows fs) (tellsAll g es fs q) _ (Fa.out _ (Below.on KA.out (below_grow _ _))).1 (Fa.out _ (Below.on KA.out (below_grow _ _))).2 (Fb.out _ (below_grow _ _)).1 (Fb.out _ (below_grow _ _)).2).mono ?_
    rintro e w4 ⟨rfl, hb⟩
    rw [sameB_refl]
    have I4 := Lib.hid ((I3.out.on (below_grow _ _)).on hb)
    have XA4 := Lib.hid ((XA.out.alloc (.cells #[.slice sab rows.length scb, .int .i64 q, .slice tab es.length tcb] 44)).on hb)
    have KA4 := Lib.hid (Below.on KA.out (Below.on (below_grow _ _) hb))
    clear hb a0 a1 a2 XA
    have p0 := I4.out.box.cell 0
    have p1 := I4.out.box.cell 1
    have p2 := I4.out.box.cell 2
    simp at p0 p1 p2
    have a0 := XA4.out.cell 0
    have a1 := XA4.out.cell 1
    have a2 := XA4.out.cell 2
    simp at a0 a1 a2
    go_wp2_with fail
    refine (iwok_any g _ _ _ q _ rows makes (mkAll g rows fs) (tellsAll g es fs q) _ (D.out _ I4.out.fin).1.gr (D.out _ I4.out.fin).1.cw (Fa.out _ KA4.out).1 (Fa.out _ KA4.out).2).mono ?_
    rintro e w5 ⟨rfl, hb⟩
    rw [HW.out]
    have I5 := Lib.hid (I4.out.on hb)
    have XA5 := Lib.hid (XA4.out.on hb)
    clear hb a0 a1 a2 p0 p1 p2
    have a1 := XA5.out.cell 1
    simp at a1
    go_wp2
    go_ret
    exact ⟨rfl, Below.on B1.out I5.out.fin⟩
end Go.Proofs.YtkcikhjobgackabDoor
