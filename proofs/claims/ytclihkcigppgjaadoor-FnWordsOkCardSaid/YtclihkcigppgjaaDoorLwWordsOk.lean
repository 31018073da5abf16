/- The law FnWordsOk, walked. -/
import Derived.Test.YtclihkcigppgjaaDoorLawK
import Derived.Test.YtclihkcigppgjaaDoorDrawK
import Derived.Test.YtclihkcigppgjaaDoorPureW
import Derived.Test.YtclihkcigppgjaaDoorWokS
import Derived.Test.YtclihkcigppgjaaDoorMadI
import Derived.Test.YtclihkcigppgjaaDoorMadS
namespace Go.Proofs.YtclihkcigppgjaaDoor
open Go.RowKit

set_option maxRecDepth 20000 in
set_option maxHeartbeats 3200000 in
theorem lWordsOk_walk (s : Value) (w : World) (h : CodeIn w s) (G : Gr w) : Calls Tryd.prog 3 #[s] w fun e w' => e = .returned (.bool true) ∧ Below w.heap.size w w' := by
  obtain ⟨a0, len0, cap0, rfl⟩ := h.slice
  have H := Lib.hid h; clear h
  have G0 := Lib.hid G; clear G
  by_cases hl : 1048576 < len0
  · go_enter Tryd.func3, Tryd.ntmps3
    go_wp2
    go_ret
    exact ⟨rfl, Below.refl _ _⟩
  go_enter Tryd.func3, Tryd.ntmps3
  go_wp2_with fail
  refine (drawWordsOk_any _ _ H.out).mono ?_
  rintro e w1 ⟨g, rv, mv, sv, q, tv, rows, makes, ss, ts, rfl, hcw, ⟨hs, ht⟩, hb⟩
  obtain ⟨ra, rc, e1, _⟩ := hcw.rows.opened
  obtain ⟨ma, mc, e2, _⟩ := hcw.makes.opened
  obtain ⟨sa, sc, e3, _⟩ := hs.opened
  obtain ⟨ta, tc, e4, _⟩ := ht.opened
  subst e1 e2 e3 e4
  have BV : Below w1.heap.size w1 ((w1.alloc (.cells #[.int .i64 g, (.slice ra rows.length rc), (.slice ma makes.length mc)] 26)).alloc (.cells #[(.slice sa ss.length sc), .int .i64 q, (.slice ta ts.length tc)] 28)) := (below_grow w1 _).alloc (by simp) _
  have X0 : Box ((w1.alloc (.cells #[.int .i64 g, (.slice ra rows.length rc), (.slice ma makes.length mc)] 26)).alloc (.cells #[(.slice sa ss.length sc), .int .i64 q, (.slice ta ts.length tc)] 28)) w1.heap.size [.int .i64 g, (.slice ra rows.length rc), (.slice ma makes.length mc)] := (Box.made w1 _ _).alloc _
  have X1 : Box ((w1.alloc (.cells #[.int .i64 g, (.slice ra rows.length rc), (.slice ma makes.length mc)] 26)).alloc (.cells #[(.slice sa ss.length sc), .int .i64 q, (.slice ta ts.length tc)] 28)) (w1.heap.size + 1) [(.slice sa ss.length sc), .int .i64 q, (.slice ta ts.length tc)] := by have := (Box.made (w1.alloc (.cells #[.int .i64 g, (.slice ra rows.length rc), (.slice ma makes.length mc)] 26)) [(.slice sa ss.length sc), .int .i64 q, (.slice ta ts.length tc)] 28); simpa using this
  have F := Lib.hid (show ∀ w', Below ((w1.alloc (.cells #[.int .i64 g, (.slice ra rows.length rc), (.slice ma makes.length mc)] 26)).alloc (.cells #[(.slice sa ss.length sc), .int .i64 q, (.slice ta ts.length tc)] 28)).heap.size ((w1.alloc (.cells #[.int .i64 g, (.slice ra rows.length rc), (.slice ma makes.length mc)] 26)).alloc (.cells #[(.slice sa ss.length sc), .int .i64 q, (.slice ta ts.length tc)] 28)) w' → (Box w' w1.heap.size [.int .i64 g, (.slice ra rows.length rc), (.slice ma makes.length mc)] ∧ Box w' (w1.heap.size + 1) [(.slice sa ss.length sc), .int .i64 q, (.slice ta ts.length tc)]) ∧ (Gr w' ∧ Cw w' (.slice ra rows.length rc) (.slice ma makes.length mc) rows makes) ∧ (Ints w' (.slice sa ss.length sc) ss ∧ Ints w' (.slice ta ts.length tc) ts) ∧ Below w.heap.size w w' from fun w' hb' => ⟨⟨X0.on hb', X1.on hb'⟩, ⟨G0.out.on (Below.on hb (Below.on BV hb')), hcw.on (Below.on BV hb')⟩, ⟨hs.below (Below.on BV hb'), ht.below (Below.on BV hb')⟩, Below.on hb (Below.on BV hb')⟩)
  have T1 := Lib.hid (Below.refl ((w1.alloc (.cells #[.int .i64 g, (.slice ra rows.length rc), (.slice ma makes.length mc)] 26)).alloc (.cells #[(.slice sa ss.length sc), .int .i64 q, (.slice ta ts.length tc)] 28)).heap.size ((w1.alloc (.cells #[.int .i64 g, (.slice ra rows.length rc), (.slice ma makes.length mc)] 26)).alloc (.cells #[(.slice sa ss.length sc), .int .i64 q, (.slice ta ts.length tc)] 28)))
  clear BV X0 X1 hcw hs ht hb
  cases hm : mdB g rows makes q ts
  · have HW := Lib.hid (show wokB g rows makes ss q ts = false by
      refine wok_false fun k => ?_
      unfold mdB at hm
      rw [lotB_true.2 k.lot, k.ex] at hm
      cases hm)
    have HM := Lib.hid hm
    clear hm
    have HWS := Lib.hid (show wdL false (saysUp g rows makes q ts) = [] from rfl)
    have HWT := Lib.hid (show wdL false ts = [] from rfl)
    have HWQ := Lib.hid (show wdQ false q = 0 from rfl)
    have p0 := (F.out _ T1.out).1.1.cell 0
    have p1 := (F.out _ T1.out).1.1.cell 1
    have p2 := (F.out _ T1.out).1.1.cell 2
    have r0 := (F.out _ T1.out).1.2.cell 0
    have r1 := (F.out _ T1.out).1.2.cell 1
    have r2 := (F.out _ T1.out).1.2.cell 2
    simp at p0 p1 p2 r0 r1 r2
    go_wp2_with fail
    refine (iwok_any g _ _ _ q _ rows makes ss ts _ (F.out _ T1.out).2.1.1 (F.out _ T1.out).2.1.2 (F.out _ T1.out).2.2.1.1 (F.out _ T1.out).2.2.1.2).mono ?_
    rintro e w2 ⟨rfl, hb⟩
    have T2 := Lib.hid (Below.on T1.out hb)
    clear hb
    rw [HW.out]
    clear p0 p1 p2 r0 r1 r2
    have p0 := (F.out _ T2.out).1.1.cell 0
    have p1 := (F.out _ T2.out).1.1.cell 1
    have p2 := (F.out _ T2.out).1.1.cell 2
    have r0 := (F.out _ T2.out).1.2.cell 0
    have r1 := (F.out _ T2.out).1.2.cell 1
    have r2 := (F.out _ T2.out).1.2.cell 2
    simp at p0 p1 p2 r0 r1 r2
    go_wp2_with fail
    refine (swok_any g _ _ _ q _ rows makes ss ts _ (F.out _ T2.out).2.1.2 (F.out _ T2.out).2.2.1.1 (F.out _ T2.out).2.2.1.2).mono ?_
    rintro e w3 ⟨rfl, hb⟩
    have T3 := Lib.hid (Below.on T2.out hb)
    clear hb
    rw [HW.out]
    clear p0 p1 p2 r0 r1 r2
    have p0 := (F.out _ T3.out).1.1.cell 0
    have p1 := (F.out _ T3.out).1.1.cell 1
    have p2 := (F.out _ T3.out).1.1.cell 2
    have r0 := (F.out _ T3.out).1.2.cell 0
    have r1 := (F.out _ T3.out).1.2.cell 1
    have r2 := (F.out _ T3.out).1.2.cell 2
    simp at p0 p1 p2 r0 r1 r2
    go_wp2_with fail
    refine (imade_any g _ _ q _ rows makes ts _ (F.out _ T3.out).2.1.1 (F.out _ T3.out).2.1.2 (F.out _ T3.out).2.2.1.2).mono ?_
    rintro e w4 ⟨xv, yv, rfl, ow, hb⟩
    rw [HM.out, HWS.out, HWT.out] at ow
    rw [HM.out, HWQ.out]
    obtain ⟨xa, xc, e8⟩ := Own.form ow.s
    obtain ⟨ya, yc, e9⟩ := Own.form ow.t
    subst e8 e9
    have T4 := Lib.hid (Below.on T3.out hb)
    have OW := Lib.hid ow
    clear hb ow
    clear p0 p1 p2 r0 r1 r2
    simp only [List.length_nil]
    have T5 := Lib.hid (Below.on T4.out (below_grow w4 (.cells #[.slice xa 0 xc, .int .i64 0, .slice ya 0 yc] 28)))
    go_wp2_with fail
    refine (alive_any _ (F.out _ T5.out).2.1.1).mono ?_
    rintro e wz_ ⟨rfl, rfl⟩
    go_wp2
    go_ret
    exact ⟨rfl, (F.out _ T5.out).2.2.2⟩
  · have hm2 := hm
    unfold mdB at hm2
    simp only [Bool.and_eq_true] at hm2
    have HW := Lib.hid (wok_made (says := ss) (lotB_true.1 hm2.1) hm2.2)
    obtain ⟨b, hbb⟩ : ∃ b, sameB (saysUp g rows makes q ts) ss = b := ⟨_, rfl⟩
    rw [hbb] at HW
    have HBB := Lib.hid hbb
    have hne : (b != b) = false := by simp
    have heq : (b == b) = true := by simp
    clear hm2 hbb
    have HM := Lib.hid hm
    clear hm
    have HWS := Lib.hid (show wdL true (saysUp g rows makes q ts) = saysUp g rows makes q ts from rfl)
    have HWT := Lib.hid (show wdL true ts = ts from rfl)
    have HWQ := Lib.hid (show wdQ true q = q from rfl)
    have p0 := (F.out _ T1.out).1.1.cell 0
    have p1 := (F.out _ T1.out).1.1.cell 1
    have p2 := (F.out _ T1.out).1.1.cell 2
    have r0 := (F.out _ T1.out).1.2.cell 0
    have r1 := (F.out _ T1.out).1.2.cell 1
    have r2 := (F.out _ T1.out).1.2.cell 2
    simp at p0 p1 p2 r0 r1 r2
    go_wp2_with fail
    refine (iwok_any g _ _ _ q _ rows makes ss ts _ (F.out _ T1.out).2.1.1 (F.out _ T1.out).2.1.2 (F.out _ T1.out).2.2.1.1 (F.out _ T1.out).2.2.1.2).mono ?_
    rintro e w2 ⟨rfl, hb⟩
    have T2 := Lib.hid (Below.on T1.out hb)
    clear hb
    rw [HW.out]
    clear p0 p1 p2 r0 r1 r2
    have p0 := (F.out _ T2.out).1.1.cell 0
    have p1 := (F.out _ T2.out).1.1.cell 1
    have p2 := (F.out _ T2.out).1.1.cell 2
    have r0 := (F.out _ T2.out).1.2.cell 0
    have r1 := (F.out _ T2.out).1.2.cell 1
    have r2 := (F.out _ T2.out).1.2.cell 2
    simp at p0 p1 p2 r0 r1 r2
    go_wp2_with fail
    refine (swok_any g _ _ _ q _ rows makes ss ts _ (F.out _ T2.out).2.1.2 (F.out _ T2.out).2.2.1.1 (F.out _ T2.out).2.2.1.2).mono ?_
    rintro e w3 ⟨rfl, hb⟩
    have T3 := Lib.hid (Below.on T2.out hb)
    clear hb
    rw [HW.out]
    clear p0 p1 p2 r0 r1 r2
    have p0 := (F.out _ T3.out).1.1.cell 0
    have p1 := (F.out _ T3.out).1.1.cell 1
    have p2 := (F.out _ T3.out).1.1.cell 2
    have r0 := (F.out _ T3.out).1.2.cell 0
    have r1 := (F.out _ T3.out).1.2.cell 1
    have r2 := (F.out _ T3.out).1.2.cell 2
    simp at p0 p1 p2 r0 r1 r2
    go_wp2_with fail
    refine (imade_any g _ _ q _ rows makes ts _ (F.out _ T3.out).2.1.1 (F.out _ T3.out).2.1.2 (F.out _ T3.out).2.2.1.2).mono ?_
    rintro e w4 ⟨xv, yv, rfl, ow, hb⟩
    rw [HM.out, HWS.out, HWT.out] at ow
    rw [HM.out, HWQ.out]
    obtain ⟨xa, xc, e8⟩ := Own.form ow.s
    obtain ⟨ya, yc, e9⟩ := Own.form ow.t
    subst e8 e9
    have T4 := Lib.hid (Below.on T3.out hb)
    have OW := Lib.hid ow
    clear hb ow
    clear p0 p1 p2 r0 r1 r2
    have T5 := Lib.hid (Below.on T4.out (below_grow w4 (.cells #[.slice xa (saysUp g rows makes q ts).length xc, .int .i64 q, .slice ya ts.length yc] 28)))
    have a0 := (Box.made w4 [.slice xa (saysUp g rows makes q ts).length xc, .int .i64 q, .slice ya ts.length yc] 28).cell 0
    have a1 := (Box.made w4 [.slice xa (saysUp g rows makes q ts).length xc, .int .i64 q, .slice ya ts.length yc] 28).cell 1
    have a2 := (Box.made w4 [.slice xa (saysUp g rows makes q ts).length xc, .int .i64 q, .slice ya ts.length yc] 28).cell 2
    simp at a0 a1 a2
    have p0 := (F.out _ T5.out).1.1.cell 0
    have p1 := (F.out _ T5.out).1.1.cell 1
    have p2 := (F.out _ T5.out).1.1.cell 2
    have r0 := (F.out _ T5.out).1.2.cell 0
    have r1 := (F.out _ T5.out).1.2.cell 1
    have r2 := (F.out _ T5.out).1.2.cell 2
    simp at p0 p1 p2 r0 r1 r2
    have hmx : (saysUp g rows makes q ts).length ≤ maxLen := by rw [saysUp_len]; have := HM.out; unfold mdB at this; simp only [Bool.and_eq_true] at this; have := (lotB_true.1 this.1).cl.r3; unfold maxLen; omega
    have hmt : ts.length ≤ maxLen := by have := HM.out; unfold mdB at this; simp only [Bool.and_eq_true] at this; have h9 := lotB_true.1 this.1; have := h9.cl.u2; rw [h9.len]; unfold maxLen; omega
    have HMX := Lib.hid hmx
    have HMT := Lib.hid hmt
    clear hmx hmt
    go_wp2_with fail
    refine (samew_any q _ _ _ _ (saysUp g rows makes q ts) ss ts _ ((Ints.of_own OW.out.s HMX.out).below (below_grow _ _)) ((Ints.of_own OW.out.t HMT.out).below (below_grow _ _)) (F.out _ T5.out).2.2.1.1 (F.out _ T5.out).2.2.1.2).mono ?_
    rintro e w6 ⟨rfl, hb⟩
    rw [HBB.out]
    have T6 := Lib.hid (Below.on T5.out hb)
    clear hb a0 a1 a2
    clear p0 p1 p2 r0 r1 r2
    go_wp2_with fail
    refine (alive_any _ (F.out _ T6.out).2.1.1).mono ?_
    rintro e wz_ ⟨rfl, rfl⟩
    go_wp2
    go_ret
    exact ⟨rfl, (F.out _ T6.out).2.2.2⟩
end Go.Proofs.YtclihkcigppgjaaDoor
