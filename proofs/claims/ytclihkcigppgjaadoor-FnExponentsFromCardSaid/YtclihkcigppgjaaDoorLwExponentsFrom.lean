/- The law FnExponentsFrom, walked. -/
import Derived.Test.YtclihkcigppgjaaDoorLawK
import Derived.Test.YtclihkcigppgjaaDoorDrawK
import Derived.Test.YtclihkcigppgjaaDoorFromI
import Derived.Test.YtclihkcigppgjaaDoorFromS
import Derived.Test.YtclihkcigppgjaaDoorSolI
namespace Go.Proofs.YtclihkcigppgjaaDoor
open Go.RowKit

set_option maxRecDepth 20000 in
set_option maxHeartbeats 3200000 in
theorem lExponentsFrom_walk (s : Value) (w : World) (h : CodeIn w s) (G : Gr w) : Calls Tryd.prog 4 #[s] w fun e w' => e = .returned (.bool true) ∧ Below w.heap.size w w' := by
  obtain ⟨a0, len0, cap0, rfl⟩ := h.slice
  have H := Lib.hid h; clear h
  have G0 := Lib.hid G; clear G
  by_cases hl : 1048576 < len0
  · go_enter Tryd.func4, Tryd.ntmps4
    go_wp2
    go_ret
    exact ⟨rfl, Below.refl _ _⟩
  go_enter Tryd.func4, Tryd.ntmps4
  go_wp2_with fail
  refine (drawExponentsFrom_any _ _ H.out).mono ?_
  rintro e w1 ⟨g, rv, mv, sv, q, tv, sv2, q2, tv2, rows, makes, ss, ts, ss2, ts2, rfl, hcw, ⟨hs, ht⟩, ⟨hs2, ht2⟩, hb⟩
  obtain ⟨ra, rc, e1, _⟩ := hcw.rows.opened
  obtain ⟨ma, mc, e2, _⟩ := hcw.makes.opened
  obtain ⟨sa, sc, e3, _⟩ := hs.opened
  obtain ⟨ta, tc, e4, _⟩ := ht.opened
  obtain ⟨sb, sd, e5, _⟩ := hs2.opened
  obtain ⟨tb, td, e6, _⟩ := ht2.opened
  subst e1 e2 e3 e4 e5 e6
  have BV : Below w1.heap.size w1 (((w1.alloc (.cells #[.int .i64 g, (.slice ra rows.length rc), (.slice ma makes.length mc)] 26)).alloc (.cells #[(.slice sa ss.length sc), .int .i64 q, (.slice ta ts.length tc)] 28)).alloc (.cells #[(.slice sb ss2.length sd), .int .i64 q2, (.slice tb ts2.length td)] 28)) := ((below_grow w1 _).alloc (by simp) _).alloc (by simp; omega) _
  have X0 : Box (((w1.alloc (.cells #[.int .i64 g, (.slice ra rows.length rc), (.slice ma makes.length mc)] 26)).alloc (.cells #[(.slice sa ss.length sc), .int .i64 q, (.slice ta ts.length tc)] 28)).alloc (.cells #[(.slice sb ss2.length sd), .int .i64 q2, (.slice tb ts2.length td)] 28)) w1.heap.size [.int .i64 g, (.slice ra rows.length rc), (.slice ma makes.length mc)] := ((Box.made w1 _ _).alloc _).alloc _
  have X1 : Box (((w1.alloc (.cells #[.int .i64 g, (.slice ra rows.length rc), (.slice ma makes.length mc)] 26)).alloc (.cells #[(.slice sa ss.length sc), .int .i64 q, (.slice ta ts.length tc)] 28)).alloc (.cells #[(.slice sb ss2.length sd), .int .i64 q2, (.slice tb ts2.length td)] 28)) (w1.heap.size + 1) [(.slice sa ss.length sc), .int .i64 q, (.slice ta ts.length tc)] := by have := (Box.made (w1.alloc (.cells #[.int .i64 g, (.slice ra rows.length rc), (.slice ma makes.length mc)] 26)) [(.slice sa ss.length sc), .int .i64 q, (.slice ta ts.length tc)] 28).alloc (.cells #[(.slice sb ss2.length sd), .int .i64 q2, (.slice tb ts2.length td)] 28); simpa using this
  have X2 : Box (((w1.alloc (.cells #[.int .i64 g, (.slice ra rows.length rc), (.slice ma makes.length mc)] 26)).alloc (.cells #[(.slice sa ss.length sc), .int .i64 q, (.slice ta ts.length tc)] 28)).alloc (.cells #[(.slice sb ss2.length sd), .int .i64 q2, (.slice tb ts2.length td)] 28)) (w1.heap.size + 2) [(.slice sb ss2.length sd), .int .i64 q2, (.slice tb ts2.length td)] := by have := Box.made ((w1.alloc (.cells #[.int .i64 g, (.slice ra rows.length rc), (.slice ma makes.length mc)] 26)).alloc (.cells #[(.slice sa ss.length sc), .int .i64 q, (.slice ta ts.length tc)] 28)) [(.slice sb ss2.length sd), .int .i64 q2, (.slice tb ts2.length td)] 28; simpa using this
  have F := Lib.hid (show ∀ w', Below (((w1.alloc (.cells #[.int .i64 g, (.slice ra rows.length rc), (.slice ma makes.length mc)] 26)).alloc (.cells #[(.slice sa ss.length sc), .int .i64 q, (.slice ta ts.length tc)] 28)).alloc (.cells #[(.slice sb ss2.length sd), .int .i64 q2, (.slice tb ts2.length td)] 28)).heap.size (((w1.alloc (.cells #[.int .i64 g, (.slice ra rows.length rc), (.slice ma makes.length mc)] 26)).alloc (.cells #[(.slice sa ss.length sc), .int .i64 q, (.slice ta ts.length tc)] 28)).alloc (.cells #[(.slice sb ss2.length sd), .int .i64 q2, (.slice tb ts2.length td)] 28)) w' → (Box w' w1.heap.size [.int .i64 g, (.slice ra rows.length rc), (.slice ma makes.length mc)] ∧ Box w' (w1.heap.size + 1) [(.slice sa ss.length sc), .int .i64 q, (.slice ta ts.length tc)] ∧ Box w' (w1.heap.size + 2) [(.slice sb ss2.length sd), .int .i64 q2, (.slice tb ts2.length td)]) ∧ (Gr w' ∧ Cw w' (.slice ra rows.length rc) (.slice ma makes.length mc) rows makes) ∧ ((Ints w' (.slice sa ss.length sc) ss ∧ Ints w' (.slice ta ts.length tc) ts) ∧ Ints w' (.slice sb ss2.length sd) ss2 ∧ Ints w' (.slice tb ts2.length td) ts2) ∧ Below w.heap.size w w' from fun w' hb' => ⟨⟨X0.on hb', X1.on hb', X2.on hb'⟩, ⟨G0.out.on (Below.on hb (Below.on BV hb')), hcw.on (Below.on BV hb')⟩, ⟨⟨hs.below (Below.on BV hb'), ht.below (Below.on BV hb')⟩, hs2.below (Below.on BV hb'), ht2.below (Below.on BV hb')⟩, Below.on hb (Below.on BV hb')⟩)
  have T1 := Lib.hid (Below.refl (((w1.alloc (.cells #[.int .i64 g, (.slice ra rows.length rc), (.slice ma makes.length mc)] 26)).alloc (.cells #[(.slice sa ss.length sc), .int .i64 q, (.slice ta ts.length tc)] 28)).alloc (.cells #[(.slice sb ss2.length sd), .int .i64 q2, (.slice tb ts2.length td)] 28)).heap.size (((w1.alloc (.cells #[.int .i64 g, (.slice ra rows.length rc), (.slice ma makes.length mc)] 26)).alloc (.cells #[(.slice sa ss.length sc), .int .i64 q, (.slice ta ts.length tc)] 28)).alloc (.cells #[(.slice sb ss2.length sd), .int .i64 q2, (.slice tb ts2.length td)] 28)))
  clear BV X0 X1 X2 hs2 ht2 hcw hs ht hb
  cases hm : frB g rows makes ss q ts ss2 q2 ts2
  · have HXL := Lib.hid (frL_no hm)
    have HM := Lib.hid hm
    clear hm
    have p0 := (F.out _ T1.out).1.1.cell 0
    have p1 := (F.out _ T1.out).1.1.cell 1
    have p2 := (F.out _ T1.out).1.1.cell 2
    have r0 := (F.out _ T1.out).1.2.1.cell 0
    have r1 := (F.out _ T1.out).1.2.1.cell 1
    have r2 := (F.out _ T1.out).1.2.1.cell 2
    have t0 := (F.out _ T1.out).1.2.2.cell 0
    have t1 := (F.out _ T1.out).1.2.2.cell 1
    have t2 := (F.out _ T1.out).1.2.2.cell 2
    simp at p0 p1 p2 r0 r1 r2 t0 t1 t2
    go_wp2_with fail
    refine (ifrom_any g _ _ _ q _ _ q2 _ rows makes ss ts ss2 ts2 _ (F.out _ T1.out).2.1.1 (F.out _ T1.out).2.1.2 (F.out _ T1.out).2.2.1.1.1 (F.out _ T1.out).2.2.1.1.2 (F.out _ T1.out).2.2.1.2.1 (F.out _ T1.out).2.2.1.2.2).mono ?_
    rintro e w2 ⟨xv0, rfl, ow, hb⟩
    rw [HXL.out] at ow
    rw [HM.out]
    obtain ⟨xa0, xc0, e8⟩ := Own.form ow
    subst e8
    have T2 := Lib.hid (Below.on T1.out hb)
    have O0 := Lib.hid (Ints.of_own ow (by simp))
    clear hb ow
    clear p0 p1 p2 r0 r1 r2 t0 t1 t2
    have p0 := (F.out _ T2.out).1.1.cell 0
    have p1 := (F.out _ T2.out).1.1.cell 1
    have p2 := (F.out _ T2.out).1.1.cell 2
    have r0 := (F.out _ T2.out).1.2.1.cell 0
    have r1 := (F.out _ T2.out).1.2.1.cell 1
    have r2 := (F.out _ T2.out).1.2.1.cell 2
    have t0 := (F.out _ T2.out).1.2.2.cell 0
    have t1 := (F.out _ T2.out).1.2.2.cell 1
    have t2 := (F.out _ T2.out).1.2.2.cell 2
    simp at p0 p1 p2 r0 r1 r2 t0 t1 t2
    go_wp2_with fail
    refine (sfrom_any g _ _ _ q _ _ q2 _ rows makes ss ts ss2 ts2 _ (F.out _ T2.out).2.1.2 (F.out _ T2.out).2.2.1.1.1 (F.out _ T2.out).2.2.1.1.2 (F.out _ T2.out).2.2.1.2.1 (F.out _ T2.out).2.2.1.2.2).mono ?_
    rintro e w3 ⟨xv1, rfl, ow, hb⟩
    rw [HXL.out] at ow
    rw [HM.out]
    obtain ⟨xa1, xc1, e8⟩ := Own.form ow
    subst e8
    have T3 := Lib.hid (Below.on T2.out hb)
    have O1 := Lib.hid (Ints.of_own ow (by simp))
    have O0b := Lib.hid (O0.out.below hb)
    clear O0
    clear hb ow
    clear p0 p1 p2 r0 r1 r2 t0 t1 t2
    go_wp2_with fail
    refine (same_eq _ _ [] _ O0b.out O1.out).mono ?_
    rintro e w4 ⟨rfl, hb⟩
    have T4 := Lib.hid (Below.on T3.out hb)
    clear hb
    go_wp2_with fail
    refine (alive_any _ (F.out _ T4.out).2.1.1).mono ?_
    rintro e wz_ ⟨rfl, rfl⟩
    go_wp2
    go_ret
    exact ⟨rfl, (F.out _ T4.out).2.2.2⟩
  · have hm2 := hm
    unfold frB at hm2
    simp only [Bool.and_eq_true, decide_eq_true_eq] at hm2
    obtain ⟨k1, k2, k3, k4⟩ := hm2
    have k5 : ss = ss2 := by unfold sameB at k3; simpa using k3
    subst k5
    obtain ⟨s1, s2⟩ := from_solves (wok_true.1 k1) (wok_true.1 k2) k4
    have HS := Lib.hid (show solvB g rows makes (fromTo g ts ts2 q q2 ts.length) = true from solv_true.2 ⟨s1, s2⟩)
    have HXL := Lib.hid (frL_yes hm)
    have hln : (fromTo g ts ts2 q q2 ts.length).length ≤ maxLen := by have := frL_len g rows makes ss q ts ss q2 ts2; rw [HXL.out] at this; unfold maxLen; omega
    have HLN := Lib.hid hln
    clear k1 k2 k3 k4 s1 s2 hln
    have HM := Lib.hid hm
    clear hm
    have p0 := (F.out _ T1.out).1.1.cell 0
    have p1 := (F.out _ T1.out).1.1.cell 1
    have p2 := (F.out _ T1.out).1.1.cell 2
    have r0 := (F.out _ T1.out).1.2.1.cell 0
    have r1 := (F.out _ T1.out).1.2.1.cell 1
    have r2 := (F.out _ T1.out).1.2.1.cell 2
    have t0 := (F.out _ T1.out).1.2.2.cell 0
    have t1 := (F.out _ T1.out).1.2.2.cell 1
    have t2 := (F.out _ T1.out).1.2.2.cell 2
    simp at p0 p1 p2 r0 r1 r2 t0 t1 t2
    go_wp2_with fail
    refine (ifrom_any g _ _ _ q _ _ q2 _ rows makes ss ts ss ts2 _ (F.out _ T1.out).2.1.1 (F.out _ T1.out).2.1.2 (F.out _ T1.out).2.2.1.1.1 (F.out _ T1.out).2.2.1.1.2 (F.out _ T1.out).2.2.1.2.1 (F.out _ T1.out).2.2.1.2.2).mono ?_
    rintro e w2 ⟨xv0, rfl, ow, hb⟩
    rw [HXL.out] at ow
    rw [HM.out]
    obtain ⟨xa0, xc0, e8⟩ := Own.form ow
    subst e8
    have T2 := Lib.hid (Below.on T1.out hb)
    have O0 := Lib.hid (Ints.of_own ow HLN.out)
    clear hb ow
    clear p0 p1 p2 r0 r1 r2 t0 t1 t2
    have p0 := (F.out _ T2.out).1.1.cell 0
    have p1 := (F.out _ T2.out).1.1.cell 1
    have p2 := (F.out _ T2.out).1.1.cell 2
    have r0 := (F.out _ T2.out).1.2.1.cell 0
    have r1 := (F.out _ T2.out).1.2.1.cell 1
    have r2 := (F.out _ T2.out).1.2.1.cell 2
    have t0 := (F.out _ T2.out).1.2.2.cell 0
    have t1 := (F.out _ T2.out).1.2.2.cell 1
    have t2 := (F.out _ T2.out).1.2.2.cell 2
    simp at p0 p1 p2 r0 r1 r2 t0 t1 t2
    go_wp2_with fail
    refine (sfrom_any g _ _ _ q _ _ q2 _ rows makes ss ts ss ts2 _ (F.out _ T2.out).2.1.2 (F.out _ T2.out).2.2.1.1.1 (F.out _ T2.out).2.2.1.1.2 (F.out _ T2.out).2.2.1.2.1 (F.out _ T2.out).2.2.1.2.2).mono ?_
    rintro e w3 ⟨xv1, rfl, ow, hb⟩
    rw [HXL.out] at ow
    rw [HM.out]
    obtain ⟨xa1, xc1, e8⟩ := Own.form ow
    subst e8
    have T3 := Lib.hid (Below.on T2.out hb)
    have O1 := Lib.hid (Ints.of_own ow HLN.out)
    have O0b := Lib.hid (O0.out.below hb)
    clear O0
    clear hb ow
    clear p0 p1 p2 r0 r1 r2 t0 t1 t2
    go_wp2_with fail
    refine (same_eq _ _ (fromTo g ts ts2 q q2 ts.length) _ O0b.out O1.out).mono ?_
    rintro e w4 ⟨rfl, hb⟩
    have T4 := Lib.hid (Below.on T3.out hb)
    have O9 := Lib.hid (O0b.out.below hb)
    clear hb
    have p0 := (F.out _ T4.out).1.1.cell 0
    have p1 := (F.out _ T4.out).1.1.cell 1
    have p2 := (F.out _ T4.out).1.1.cell 2
    have r0 := (F.out _ T4.out).1.2.1.cell 0
    have r1 := (F.out _ T4.out).1.2.1.cell 1
    have r2 := (F.out _ T4.out).1.2.1.cell 2
    have t0 := (F.out _ T4.out).1.2.2.cell 0
    have t1 := (F.out _ T4.out).1.2.2.cell 1
    have t2 := (F.out _ T4.out).1.2.2.cell 2
    simp at p0 p1 p2 r0 r1 r2 t0 t1 t2
    go_wp2_with fail
    refine (isolv_any g _ _ _ rows makes (fromTo g ts ts2 q q2 ts.length) _ (F.out _ T4.out).2.1.1 (F.out _ T4.out).2.1.2 O9.out).mono ?_
    rintro e w5 ⟨rfl, hb⟩
    have T5 := Lib.hid (Below.on T4.out hb)
    clear hb
    rw [HS.out]
    clear p0 p1 p2 r0 r1 r2 t0 t1 t2
    go_wp2
    go_ret
    exact ⟨rfl, (F.out _ T5.out).2.2.2⟩
end Go.Proofs.YtclihkcigppgjaaDoor
