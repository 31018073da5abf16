/- The exact law of SomeOf, walked: spec's answer, impl's answer, and that both are the same; no argument is written to; the answer owns its memory. -/
import Derived.Test.YtacalanlepjljaaDoorSofI
import Derived.Test.YtacalanlepjljaaDoorSofS
import Derived.Test.YtacalanlepjljaaDoorSomC
import Derived.Deep.Cut
namespace Go.Proofs.YtacalanlepjljaaDoor
open Go.RowKit

theorem smallQ {n : Nat} (h : n ≤ 1048576) : n ≤ maxLen := by unfold maxLen; omega
theorem sQ_len (b : Bool) (f : Nat → Int) (n : Nat) : (sL b (mapTo f n)).length = if b then n else 0 := by
  cases b
  · rfl
  · exact mapTo_len f n
theorem sof_short {g : Int} {keys : List Int} {need : Int} {secrets first second : List Int} {ask : Int} (f : Nat → Int) : (sL (sofB g keys need secrets first second ask) (mapTo f keys.length)).length ≤ 4 := by
  cases h : sofB g keys need secrets first second ask
  · simp [sL]
  · rw [sQ_len]; exact (sofB_true.1 h).k.m.n4

set_option maxRecDepth 20000 in
set_option maxHeartbeats 12800000 in
theorem xSomeOf_walk (g : Int) (ka : Option Addr) (kc : Nat) (keys : List Int) (need : Int) (sa : Option Addr) (sc : Nat) (secrets : List Int) (fa : Option Addr) (fc : Nat) (first : List Int) (ga : Option Addr) (gc : Nat) (second : List Int) (ask : Int) (w : World) (G : Gr w)
    (hk : ArgI w ka keys) (mk : keys.length ≤ maxLen) (hs : ArgI w sa secrets) (ms : secrets.length ≤ maxLen) (hf : ArgI w fa first) (mf : first.length ≤ maxLen) (hg : ArgI w ga second) (mg : second.length ≤ maxLen) :
    Calls Tryd.prog 3 #[.int .i64 g, .slice ka keys.length kc, .int .i64 need, .slice sa secrets.length sc, .slice fa first.length fc, .slice ga second.length gc, .int .i64 ask] w fun e w' => e = .returned (.bool true) ∧ Below w.heap.size w w' := by
  have HG := Lib.hid G
  have Hk := Lib.hid hk; have Hs := Lib.hid hs; have Hf := Lib.hid hf; have Hg := Lib.hid hg
  unfold maxLen at mk ms mf mg
  clear hk hs hf hg G
  by_cases ck : keys.length ≤ 1048576
  case neg =>
    go_enter Tryd.func3, Tryd.ntmps3
    go_wp2
    go_ret
    exact ⟨rfl, Below.refl _ _⟩
  by_cases cs : secrets.length ≤ 1048576
  case neg =>
    go_enter Tryd.func3, Tryd.ntmps3
    go_wp2
    go_ret
    exact ⟨rfl, Below.refl _ _⟩
  by_cases cf : first.length ≤ 1048576
  case neg =>
    go_enter Tryd.func3, Tryd.ntmps3
    go_wp2
    go_ret
    exact ⟨rfl, Below.refl _ _⟩
  by_cases cg : second.length ≤ 1048576
  case neg =>
    go_enter Tryd.func3, Tryd.ntmps3
    go_wp2
    go_ret
    exact ⟨rfl, Below.refl _ _⟩
  obtain ⟨b, hbb⟩ : ∃ b, sofB g keys need secrets first second ask = b := ⟨_, rfl⟩
  obtain ⟨SS, hSS⟩ : ∃ l, sL b (mapTo (sofS g keys secrets first second) keys.length) = l := ⟨_, rfl⟩
  obtain ⟨XS, hXS⟩ : ∃ l, sL b (mapTo (sofX g secrets first ask keys.length) keys.length) = l := ⟨_, rfl⟩
  obtain ⟨TS, hTS⟩ : ∃ l, sL b (mapTo (sofT g secrets first second ask keys.length) keys.length) = l := ⟨_, rfl⟩
  obtain ⟨q, hq⟩ : ∃ q, sQ b ask = q := ⟨_, rfl⟩
  have lS : SS.length ≤ 4 := by rw [← hSS, ← hbb]; exact sof_short _
  have lX : XS.length ≤ 4 := by rw [← hXS, ← hbb]; exact sof_short _
  have lT : TS.length ≤ 4 := by rw [← hTS, ← hbb]; exact sof_short _
  have HBB := Lib.hid hbb; have HSS := Lib.hid hSS; have HXS := Lib.hid hXS; have HTS := Lib.hid hTS; have HQ := Lib.hid hq
  clear hbb hSS hXS hTS hq
  have hbn : (b != b) = false := by simp
  have m4 : 4 ≤ maxLen := by unfold maxLen; omega
  have HM4 := Lib.hid m4
  clear m4
  go_enter Tryd.func3, Tryd.ntmps3
  go_wp2_with fail
  refine (toI_any ka kc keys _ (Hk.out.on (Below.refl w.heap.size w)) ck).mono ?_
  rintro e w1 ⟨yk, rfl, ok, hb⟩
  have B1 := Lib.hid (Below.on (Below.refl w.heap.size w) hb)
  have Ik_1 := Lib.hid (Ints.of_own ok (smallQ ck))
  clear ok hb
  go_wp2_with fail
  refine (toI_any sa sc secrets _ (Hs.out.on B1.out) cs).mono ?_
  rintro e w2 ⟨ys, rfl, os, hb⟩
  have B2 := Lib.hid (Below.on B1.out hb)
  have Is_2 := Lib.hid (Ints.of_own os (smallQ cs))
  have Ik_2 := Lib.hid (Ik_1.out.below hb)
  clear Ik_1
  clear os hb
  go_wp2_with fail
  refine (toI_any fa fc first _ (Hf.out.on B2.out) cf).mono ?_
  rintro e w3 ⟨yf, rfl, of, hb⟩
  have B3 := Lib.hid (Below.on B2.out hb)
  have If_3 := Lib.hid (Ints.of_own of (smallQ cf))
  have Ik_3 := Lib.hid (Ik_2.out.below hb)
  clear Ik_2
  have Is_3 := Lib.hid (Is_2.out.below hb)
  clear Is_2
  clear of hb
  go_wp2_with fail
  refine (toI_any ga gc second _ (Hg.out.on B3.out) cg).mono ?_
  rintro e w4 ⟨yg, rfl, og, hb⟩
  have B4 := Lib.hid (Below.on B3.out hb)
  have Ig_4 := Lib.hid (Ints.of_own og (smallQ cg))
  have Ik_4 := Lib.hid (Ik_3.out.below hb)
  clear Ik_3
  have Is_4 := Lib.hid (Is_3.out.below hb)
  clear Is_3
  have If_4 := Lib.hid (If_3.out.below hb)
  clear If_3
  clear og hb
  go_wp2_with fail
  refine (ssof_any g need ask _ _ _ _ keys secrets first second _ Ik_4.out Is_4.out If_4.out Ig_4.out).mono ?_
  rintro e w5 ⟨u1, u2, u3, rfl, ho, hb⟩
  rw [HBB.out, HSS.out, HXS.out, HTS.out] at ho
  rw [HBB.out, HQ.out]
  obtain ⟨sA, sC, e1⟩ := Own.form ho.s
  obtain ⟨xA, xC, e2⟩ := Own.form ho.x
  obtain ⟨tA, tC, e3⟩ := Own.form ho.t
  subst e1 e2 e3
  obtain ⟨wa, hwa⟩ : ∃ z, z = w5.alloc (.cells #[.slice sA SS.length sC, .int .i64 q, .slice xA XS.length xC, .slice tA TS.length tC] 24) := ⟨_, rfl⟩
  have hza : wa.heap.size = w5.heap.size + 1 := by rw [hwa]; simp
  have FA := Lib.hid (show ∀ w', Below wa.heap.size wa w' → (Box w' w5.heap.size [.slice sA SS.length sC, .int .i64 q, .slice xA XS.length xC, .slice tA TS.length tC] ∧ OwnS w' w4.heap.size w5.heap.size (.slice sA SS.length sC) (.slice xA XS.length xC) (.slice tA TS.length tC) SS XS TS) ∧ Below w.heap.size w w' from fun w' hb2 => by
    rw [hwa] at hb2
    have h3 := Below.on (below_grow w5 (.cells #[.slice sA SS.length sC, .int .i64 q, .slice xA XS.length xC, .slice tA TS.length tC] 24)) hb2
    exact ⟨⟨(Box.made w5 [.slice sA SS.length sC, .int .i64 q, .slice xA XS.length xC, .slice tA TS.length tC] 24).on hb2, ho.on h3⟩, Below.on B4.out (Below.on hb h3)⟩)
  have hz4 := hb.size
  have hw0 := B4.out.size
  clear ho hb Ik_4 Is_4 If_4 Ig_4 B1 B2 B3 B4
  have TA := Lib.hid (Below.refl wa.heap.size wa)
  go_wp2_with fail
  rw [← hwa]
  clear hwa
  refine (toI_any ka kc keys _ (Hk.out.on (FA.out _ TA.out).2) ck).mono ?_
  rintro e w6 ⟨xk, rfl, ok, hb⟩
  have T6 := Lib.hid (Below.on TA.out hb)
  have Ok_6 := Lib.hid ok
  have hz6 := hb.size
  have Vk := Lib.hid (fun k hk => (Ok_6.out.lt k hk).2)
  clear ok hb
  go_wp2_with fail
  refine (toI_any sa sc secrets _ (Hs.out.on (FA.out _ T6.out).2) cs).mono ?_
  rintro e w7 ⟨xs, rfl, os, hb⟩
  have T7 := Lib.hid (Below.on T6.out hb)
  have Os_7 := Lib.hid os
  have hz7 := hb.size
  have Vs := Lib.hid (fun k hk => (Os_7.out.lt k hk).2)
  have Ok_7 := Lib.hid (own_below Ok_6.out hb)
  clear Ok_6
  clear os hb
  go_wp2_with fail
  refine (toI_any fa fc first _ (Hf.out.on (FA.out _ T7.out).2) cf).mono ?_
  rintro e w8 ⟨xf, rfl, of, hb⟩
  have T8 := Lib.hid (Below.on T7.out hb)
  have Of_8 := Lib.hid of
  have hz8 := hb.size
  have Vf := Lib.hid (fun k hk => (Of_8.out.lt k hk).2)
  have Ok_8 := Lib.hid (own_below Ok_7.out hb)
  clear Ok_7
  have Os_8 := Lib.hid (own_below Os_7.out hb)
  clear Os_7
  clear of hb
  go_wp2_with fail
  refine (toI_any ga gc second _ (Hg.out.on (FA.out _ T8.out).2) cg).mono ?_
  rintro e w9 ⟨xg, rfl, og, hb⟩
  have T9 := Lib.hid (Below.on T8.out hb)
  have Og_9 := Lib.hid og
  have hz9 := hb.size
  have Vg := Lib.hid (fun k hk => (Og_9.out.lt k hk).2)
  have Ok_9 := Lib.hid (own_below Ok_8.out hb)
  clear Ok_8
  have Os_9 := Lib.hid (own_below Os_8.out hb)
  clear Os_8
  have Of_9 := Lib.hid (own_below Of_8.out hb)
  clear Of_8
  clear og hb
  go_wp2_with fail
  refine (isof_any g need ask _ _ _ _ keys secrets first second _ (HG.out.on (FA.out _ T9.out).2) (Ints.of_own Ok_9.out (smallQ ck)) (Ints.of_own Os_9.out (smallQ cs)) (Ints.of_own Of_9.out (smallQ cf)) (Ints.of_own Og_9.out (smallQ cg))).mono ?_
  rintro e w10 ⟨u1, u2, u3, rfl, ho, hb⟩
  rw [HBB.out, HSS.out, HXS.out, HTS.out] at ho
  rw [HBB.out, HQ.out]
  obtain ⟨sB, sD, e1⟩ := Own.form ho.s
  obtain ⟨xB, xD, e2⟩ := Own.form ho.x
  obtain ⟨tB, tD, e3⟩ := Own.form ho.t
  subst e1 e2 e3
  obtain ⟨wb, hwb⟩ : ∃ z, z = w10.alloc (.cells #[.slice sB SS.length sD, .int .i64 q, .slice xB XS.length xD, .slice tB TS.length tD] 24) := ⟨_, rfl⟩
  have hzb : wb.heap.size = w10.heap.size + 1 := by rw [hwb]; simp
  have FK := Lib.hid (show ∀ w', Below wb.heap.size wb w' → ((Box w' w5.heap.size [.slice sA SS.length sC, .int .i64 q, .slice xA XS.length xC, .slice tA TS.length tC] ∧ OwnS w' w4.heap.size w5.heap.size (.slice sA SS.length sC) (.slice xA XS.length xC) (.slice tA TS.length tC) SS XS TS) ∧ Below w.heap.size w w') ∧ (Own w' wa.heap.size xk keys ∧ Own w' w6.heap.size xs secrets ∧ Own w' w7.heap.size xf first ∧ Own w' w8.heap.size xg second) ∧ (OwnS w' w9.heap.size w10.heap.size (.slice sB SS.length sD) (.slice xB XS.length xD) (.slice tB TS.length tD) SS XS TS ∧ Box w' w10.heap.size [.slice sB SS.length sD, .int .i64 q, .slice xB XS.length xD, .slice tB TS.length tD]) from fun w' hb2 => by
    rw [hwb] at hb2
    have h3 := Below.on (below_grow w10 (.cells #[.slice sB SS.length sD, .int .i64 q, .slice xB XS.length xD, .slice tB TS.length tD] 24)) hb2
    have h4 := Below.on hb h3
    exact ⟨FA.out _ (Below.on T9.out h4), ⟨own_below Ok_9.out h4, own_below Os_9.out h4, own_below Of_9.out h4, own_below Og_9.out h4⟩, ho.on h3, (Box.made w10 [.slice sB SS.length sD, .int .i64 q, .slice xB XS.length xD, .slice tB TS.length tD] 24).on hb2⟩)
  have hz10 := hb.size
  have HWB := Lib.hid hwb
  clear ho hb Ok_9 Os_9 Of_9 Og_9 T6 T7 T8 T9 TA hwb
  have T11 := Lib.hid (Below.refl wb.heap.size wb)
  have q0 := ((FK.out _ T11.out).2.2.2).cell 0; have q1 := ((FK.out _ T11.out).2.2.2).cell 1; have q2_ := ((FK.out _ T11.out).2.2.2).cell 2; have q3 := ((FK.out _ T11.out).2.2.2).cell 3
  have p0 := ((FK.out _ T11.out).1.1.1).cell 0; have p1 := ((FK.out _ T11.out).1.1.1).cell 1; have p2 := ((FK.out _ T11.out).1.1.1).cell 2; have p3 := ((FK.out _ T11.out).1.1.1).cell 3
  simp at q0 q1 q2_ q3 p0 p1 p2 p3
  rw [HWB.out] at q0 q1 q2_ q3 p0 p1 p2 p3
  skip
  go_wp2_with fail
  rw [← HWB.out]
  refine (eqsm_any q _ _ _ _ _ _ SS XS TS _ (Ints.of_own (FK.out _ T11.out).2.2.1.s (Nat.le_trans lS HM4.out)) (Ints.of_own (FK.out _ T11.out).2.2.1.x (Nat.le_trans lX HM4.out)) (Ints.of_own (FK.out _ T11.out).2.2.1.t (Nat.le_trans lT HM4.out)) (Ints.of_own (FK.out _ T11.out).1.1.2.s (Nat.le_trans lS HM4.out)) (Ints.of_own (FK.out _ T11.out).1.1.2.x (Nat.le_trans lX HM4.out)) (Ints.of_own (FK.out _ T11.out).1.1.2.t (Nat.le_trans lT HM4.out))).mono ?_
  rintro e w12 ⟨rfl, hb⟩
  have T12 := Lib.hid (Below.on T11.out hb)
  clear q0 q1 q2_ q3 p0 p1 p2 p3 hb HWB
  go_wp2_with fail
  refine (toI_any ka kc keys _ (Hk.out.on (FK.out _ T12.out).1.2) ck).mono ?_
  rintro e w13 ⟨yv, rfl, oo, hb⟩
  have T13 := Lib.hid (Below.on T12.out hb)
  have IY := Lib.hid (Ints.of_own oo (smallQ ck))
  clear oo hb
  go_wp2_with fail
  refine (eqs_same xk yv keys _ (Ints.of_own (FK.out _ T13.out).2.1.1 (smallQ ck)) IY.out).mono ?_
  rintro e w14 ⟨rfl, mm, hw⟩
  have T14 := Lib.hid (Below.on T13.out (below_of_drew hw))
  clear hw IY
  go_wp2_with fail
  refine (toI_any sa sc secrets _ (Hs.out.on (FK.out _ T14.out).1.2) cs).mono ?_
  rintro e w15 ⟨yv, rfl, oo, hb⟩
  have T15 := Lib.hid (Below.on T14.out hb)
  have IY := Lib.hid (Ints.of_own oo (smallQ cs))
  clear oo hb
  go_wp2_with fail
  refine (eqs_same xs yv secrets _ (Ints.of_own (FK.out _ T15.out).2.1.2.1 (smallQ cs)) IY.out).mono ?_
  rintro e w16 ⟨rfl, mm, hw⟩
  have T16 := Lib.hid (Below.on T15.out (below_of_drew hw))
  clear hw IY
  go_wp2_with fail
  refine (toI_any fa fc first _ (Hf.out.on (FK.out _ T16.out).1.2) cf).mono ?_
  rintro e w17 ⟨yv, rfl, oo, hb⟩
  have T17 := Lib.hid (Below.on T16.out hb)
  have IY := Lib.hid (Ints.of_own oo (smallQ cf))
  clear oo hb
  go_wp2_with fail
  refine (eqs_same xf yv first _ (Ints.of_own (FK.out _ T17.out).2.1.2.2.1 (smallQ cf)) IY.out).mono ?_
  rintro e w18 ⟨rfl, mm, hw⟩
  have T18 := Lib.hid (Below.on T17.out (below_of_drew hw))
  clear hw IY
  go_wp2_with fail
  refine (toI_any ga gc second _ (Hg.out.on (FK.out _ T18.out).1.2) cg).mono ?_
  rintro e w19 ⟨yv, rfl, oo, hb⟩
  have T19 := Lib.hid (Below.on T18.out hb)
  have IY := Lib.hid (Ints.of_own oo (smallQ cg))
  clear oo hb
  go_wp2_with fail
  refine (eqs_same xg yv second _ (Ints.of_own (FK.out _ T19.out).2.1.2.2.2 (smallQ cg)) IY.out).mono ?_
  rintro e w20 ⟨rfl, mm, hw⟩
  have T20 := Lib.hid (Below.on T19.out (below_of_drew hw))
  clear hw IY
  have F20 := Lib.hid (FK.out _ T20.out)
  have hy20 := T20.out.size
  clear FK T11 T12 T13 T14 T15 T16 T17 T18 T19 T20
  go_wp2_with fail
  refine (markI_any xk keys 1 wa.heap.size _ F20.out.2.1.1 (by omega) (by omega) (by omega)).mono ?_
  rintro e w21 ⟨rfl, oo, gr⟩
  have out := Outside.of_grown (lo := wa.heap.size) (hi := w6.heap.size) gr fun k hk => ⟨(F20.out.2.1.1.lt k hk).1, Vk.out k hk⟩
  clear gr oo
  have ob := out.below (show wa.heap.size ≤ w20.heap.size by omega)
  obtain ⟨K0, hK⟩ : ∃ K : Int, 1 + (keys.length : Int) = K := ⟨_, rfl⟩
  have K0a : 0 ≤ K0 := by omega
  have K0b : K0 ≤ 1100000 := by omega
  rw [hK]
  clear hK
  have F21 := Lib.hid (show ((Box w21 w5.heap.size [.slice sA SS.length sC, .int .i64 q, .slice xA XS.length xC, .slice tA TS.length tC] ∧ OwnS w21 w4.heap.size w5.heap.size (.slice sA SS.length sC) (.slice xA XS.length xC) (.slice tA TS.length tC) SS XS TS) ∧ Below w.heap.size w w21) ∧ (Own w21 w6.heap.size xs secrets ∧ Own w21 w7.heap.size xf first ∧ Own w21 w8.heap.size xg second) ∧ (OwnS w21 w9.heap.size w10.heap.size (.slice sB SS.length sD) (.slice xB XS.length xD) (.slice tB TS.length tD) SS XS TS ∧ Box w21 w10.heap.size [.slice sB SS.length sD, .int .i64 q, .slice xB XS.length xD, .slice tB TS.length tD]) from ⟨⟨⟨F20.out.1.1.1.low ob (by omega), OwnS.near out F20.out.1.1.2 (by omega)⟩, F20.out.1.2.trans (ob.mono (by have := hw0; omega))⟩, ⟨out.own F20.out.2.1.2.1 (by omega), out.own F20.out.2.1.2.2.1 (by omega), out.own F20.out.2.1.2.2.2 (by omega)⟩, OwnS.far out F20.out.2.2.1 (by omega), out.box F20.out.2.2.2 (by omega)⟩)
  have hy21 := out.size
  clear ob out
  clear F20
  go_wp2_with fail
  refine (markI_any xs secrets K0 w6.heap.size _ F21.out.2.1.1 (by omega) (by omega) (by omega)).mono ?_
  rintro e w22 ⟨rfl, oo, gr⟩
  have out := Outside.of_grown (lo := w6.heap.size) (hi := w7.heap.size) gr fun k hk => ⟨(F21.out.2.1.1.lt k hk).1, Vs.out k hk⟩
  clear gr oo
  have ob := out.below (show w6.heap.size ≤ w21.heap.size by omega)
  obtain ⟨K1, hK⟩ : ∃ K : Int, K0 + (secrets.length : Int) = K := ⟨_, rfl⟩
  have K1a : 0 ≤ K1 := by omega
  have K1b : K1 ≤ 2200000 := by omega
  rw [hK]
  clear hK
  have F22 := Lib.hid (show ((Box w22 w5.heap.size [.slice sA SS.length sC, .int .i64 q, .slice xA XS.length xC, .slice tA TS.length tC] ∧ OwnS w22 w4.heap.size w5.heap.size (.slice sA SS.length sC) (.slice xA XS.length xC) (.slice tA TS.length tC) SS XS TS) ∧ Below w.heap.size w w22) ∧ (Own w22 w7.heap.size xf first ∧ Own w22 w8.heap.size xg second) ∧ (OwnS w22 w9.heap.size w10.heap.size (.slice sB SS.length sD) (.slice xB XS.length xD) (.slice tB TS.length tD) SS XS TS ∧ Box w22 w10.heap.size [.slice sB SS.length sD, .int .i64 q, .slice xB XS.length xD, .slice tB TS.length tD]) from ⟨⟨⟨F21.out.1.1.1.low ob (by omega), OwnS.near out F21.out.1.1.2 (by omega)⟩, F21.out.1.2.trans (ob.mono (by have := hw0; omega))⟩, ⟨out.own F21.out.2.1.2.1 (by omega), out.own F21.out.2.1.2.2 (by omega)⟩, OwnS.far out F21.out.2.2.1 (by omega), out.box F21.out.2.2.2 (by omega)⟩)
  have hy22 := out.size
  clear ob out
  clear F21
  go_wp2_with fail
  refine (markI_any xf first K1 w7.heap.size _ F22.out.2.1.1 (by omega) (by omega) (by omega)).mono ?_
  rintro e w23 ⟨rfl, oo, gr⟩
  have out := Outside.of_grown (lo := w7.heap.size) (hi := w8.heap.size) gr fun k hk => ⟨(F22.out.2.1.1.lt k hk).1, Vf.out k hk⟩
  clear gr oo
  have ob := out.below (show w7.heap.size ≤ w22.heap.size by omega)
  obtain ⟨K2, hK⟩ : ∃ K : Int, K1 + (first.length : Int) = K := ⟨_, rfl⟩
  have K2a : 0 ≤ K2 := by omega
  have K2b : K2 ≤ 3300000 := by omega
  rw [hK]
  clear hK
  have F23 := Lib.hid (show ((Box w23 w5.heap.size [.slice sA SS.length sC, .int .i64 q, .slice xA XS.length xC, .slice tA TS.length tC] ∧ OwnS w23 w4.heap.size w5.heap.size (.slice sA SS.length sC) (.slice xA XS.length xC) (.slice tA TS.length tC) SS XS TS) ∧ Below w.heap.size w w23) ∧ (Own w23 w8.heap.size xg second) ∧ (OwnS w23 w9.heap.size w10.heap.size (.slice sB SS.length sD) (.slice xB XS.length xD) (.slice tB TS.length tD) SS XS TS ∧ Box w23 w10.heap.size [.slice sB SS.length sD, .int .i64 q, .slice xB XS.length xD, .slice tB TS.length tD]) from ⟨⟨⟨F22.out.1.1.1.low ob (by omega), OwnS.near out F22.out.1.1.2 (by omega)⟩, F22.out.1.2.trans (ob.mono (by have := hw0; omega))⟩, out.own F22.out.2.1.2 (by omega), OwnS.far out F22.out.2.2.1 (by omega), out.box F22.out.2.2.2 (by omega)⟩)
  have hy23 := out.size
  clear ob out
  clear F22
  go_wp2_with fail
  refine (markI_any xg second K2 w8.heap.size _ F23.out.2.1 (by omega) (by omega) (by omega)).mono ?_
  rintro e w24 ⟨rfl, oo, gr⟩
  have out := Outside.of_grown (lo := w8.heap.size) (hi := w9.heap.size) gr fun k hk => ⟨(F23.out.2.1.lt k hk).1, Vg.out k hk⟩
  clear gr oo
  have ob := out.below (show w8.heap.size ≤ w23.heap.size by omega)
  obtain ⟨K3, hK⟩ : ∃ K : Int, K2 + (second.length : Int) = K := ⟨_, rfl⟩
  have K3a : 0 ≤ K3 := by omega
  have K3b : K3 ≤ 4400000 := by omega
  rw [hK]
  clear hK
  have F24 := Lib.hid (show ((Box w24 w5.heap.size [.slice sA SS.length sC, .int .i64 q, .slice xA XS.length xC, .slice tA TS.length tC] ∧ OwnS w24 w4.heap.size w5.heap.size (.slice sA SS.length sC) (.slice xA XS.length xC) (.slice tA TS.length tC) SS XS TS) ∧ Below w.heap.size w w24) ∧ (True) ∧ (OwnS w24 w9.heap.size w10.heap.size (.slice sB SS.length sD) (.slice xB XS.length xD) (.slice tB TS.length tD) SS XS TS ∧ Box w24 w10.heap.size [.slice sB SS.length sD, .int .i64 q, .slice xB XS.length xD, .slice tB TS.length tD]) from ⟨⟨⟨F23.out.1.1.1.low ob (by omega), OwnS.near out F23.out.1.1.2 (by omega)⟩, F23.out.1.2.trans (ob.mono (by have := hw0; omega))⟩, trivial, OwnS.far out F23.out.2.2.1 (by omega), out.box F23.out.2.2.2 (by omega)⟩)
  have hy24 := out.size
  clear ob out
  clear F23
  have q0 := (F24.out.2.2.2).cell 0; have q1 := (F24.out.2.2.2).cell 1; have q2_ := (F24.out.2.2.2).cell 2; have q3 := (F24.out.2.2.2).cell 3
  have p0 := (F24.out.1.1.1).cell 0; have p1 := (F24.out.1.1.1).cell 1; have p2 := (F24.out.1.1.1).cell 2; have p3 := (F24.out.1.1.1).cell 3
  simp at q0 q1 q2_ q3 p0 p1 p2 p3
  have hk0 : ¬ K3 < 0 := by omega
  have hkd : decide (K3 < 0) = false := by simp; omega
  go_wp2_with fail
  refine (eqsm_any q _ _ _ _ _ _ SS XS TS _ (Ints.of_own F24.out.2.2.1.s (Nat.le_trans lS HM4.out)) (Ints.of_own F24.out.2.2.1.x (Nat.le_trans lX HM4.out)) (Ints.of_own F24.out.2.2.1.t (Nat.le_trans lT HM4.out)) (Ints.of_own F24.out.1.1.2.s (Nat.le_trans lS HM4.out)) (Ints.of_own F24.out.1.1.2.x (Nat.le_trans lX HM4.out)) (Ints.of_own F24.out.1.1.2.t (Nat.le_trans lT HM4.out))).mono ?_
  rintro e w25 ⟨rfl, hb⟩
  have F25 := Lib.hid (show ((Box w25 w5.heap.size [.slice sA SS.length sC, .int .i64 q, .slice xA XS.length xC, .slice tA TS.length tC] ∧ OwnS w25 w4.heap.size w5.heap.size (.slice sA SS.length sC) (.slice xA XS.length xC) (.slice tA TS.length tC) SS XS TS) ∧ Below w.heap.size w w25) ∧ (OwnS w25 w9.heap.size w10.heap.size (.slice sB SS.length sD) (.slice xB XS.length xD) (.slice tB TS.length tD) SS XS TS ∧ Box w25 w10.heap.size [.slice sB SS.length sD, .int .i64 q, .slice xB XS.length xD, .slice tB TS.length tD]) from ⟨⟨⟨F24.out.1.1.1.on hb, F24.out.1.1.2.on hb⟩, Below.on F24.out.1.2 hb⟩, F24.out.2.2.1.on hb, F24.out.2.2.2.on hb⟩)
  have hy25 := hb.size
  clear hb F24
  clear q0 q1 q2_ q3 p0 p1 p2 p3
  have q0 := F25.out.2.2.cell 0; have q1 := F25.out.2.2.cell 1; have q2_ := F25.out.2.2.cell 2; have q3 := F25.out.2.2.cell 3
  simp at q0 q1 q2_ q3
  go_wp2_with fail
  refine (marks_any q _ _ _ SS XS TS 1 w9.heap.size w10.heap.size _ F25.out.2.1 (by omega) (by omega) (by omega) (by omega) (by omega) (by omega)).mono ?_
  rintro e w26 ⟨rfl, og, out⟩
  clear q0 q1 q2_ q3
  have ob := out.below (show w9.heap.size ≤ w25.heap.size by omega)
  obtain ⟨MV, hMV⟩ : ∃ K : Int, 1 + (SS.length : Int) + XS.length + TS.length = K := ⟨_, rfl⟩
  have MVa : 0 ≤ MV := by omega
  rw [hMV]
  have HMV := Lib.hid hMV
  clear hMV
  have FM := Lib.hid (show ∀ w', Below w26.heap.size w26 w' → ((Box w' w5.heap.size [.slice sA SS.length sC, .int .i64 q, .slice xA XS.length xC, .slice tA TS.length tC] ∧ OwnS w' w4.heap.size w5.heap.size (.slice sA SS.length sC) (.slice xA XS.length xC) (.slice tA TS.length tC) SS XS TS) ∧ Below w.heap.size w w') ∧ OwnS w' w9.heap.size w10.heap.size (.slice sB SS.length sD) (.slice xB XS.length xD) (.slice tB TS.length tD) (markTo SS 1 SS.length) (markTo XS (1 + SS.length) XS.length) (markTo TS (1 + SS.length + XS.length) TS.length) ∧ Box w' w10.heap.size [.slice sB SS.length sD, .int .i64 q, .slice xB XS.length xD, .slice tB TS.length tD] from fun w' hb => ⟨⟨⟨(F25.out.1.1.1.low ob (by omega)).on hb, (OwnS.near out F25.out.1.1.2 (by omega)).on hb⟩, Below.on (F25.out.1.2.trans (ob.mono (by have := hw0; omega))) hb⟩, og.on hb, (out.box F25.out.2.2 (Nat.le_refl _)).on hb⟩)
  have T26 := Lib.hid (Below.refl w26.heap.size w26)
  clear og out ob F25
  have q0 := (FM.out _ T26.out).2.2.cell 0; have q1 := (FM.out _ T26.out).2.2.cell 1; have q2_ := (FM.out _ T26.out).2.2.cell 2; have q3 := (FM.out _ T26.out).2.2.cell 3
  simp at q0 q1 q2_ q3
  go_wp2_with fail
  refine (helds_any q _ _ _ (markTo SS 1 SS.length) (markTo XS (1 + SS.length) XS.length) (markTo TS (1 + SS.length + XS.length) TS.length) 1 _ (Ints.of_own (FM.out _ T26.out).2.1.s (by rw [markTo_len]; exact (Nat.le_trans lS HM4.out))) (Ints.of_own (FM.out _ T26.out).2.1.x (by rw [markTo_len]; exact (Nat.le_trans lX HM4.out))) (Ints.of_own (FM.out _ T26.out).2.1.t (by rw [markTo_len]; exact (Nat.le_trans lT HM4.out))) (by rw [markTo_len]; omega) (by rw [markTo_len]; omega) (by rw [markTo_len]; omega) (by omega) (by omega) (fun j hj => markTo_nth _ _ _ (Nat.le_refl _) j (by rwa [markTo_len] at hj)) (fun j hj => by rw [markTo_len, markTo_nth _ _ _ (Nat.le_refl _) j (by rwa [markTo_len] at hj)]) (fun j hj => by rw [markTo_len, markTo_len, markTo_nth _ _ _ (Nat.le_refl _) j (by rwa [markTo_len] at hj)])).mono ?_
  rintro e w27 ⟨rfl, hb⟩
  rw [markTo_len, markTo_len, markTo_len, HMV.out]
  have T27 := Lib.hid (Below.on T26.out hb)
  clear hb q0 q1 q2_ q3
  have hm0 : ¬ MV < 0 := by omega
  have hmn : (MV != MV) = false := by simp
  go_wp2_with fail
  refine (toI_any ka kc keys _ (Hk.out.on (FM.out _ T27.out).1.2) ck).mono ?_
  rintro e w28 ⟨zk, rfl, oo, hb⟩
  have T28 := Lib.hid (Below.on T27.out hb)
  have Jk_28 := Lib.hid (Ints.of_own oo (smallQ ck))
  clear oo hb
  go_wp2_with fail
  refine (toI_any sa sc secrets _ (Hs.out.on (FM.out _ T28.out).1.2) cs).mono ?_
  rintro e w29 ⟨zs, rfl, oo, hb⟩
  have T29 := Lib.hid (Below.on T28.out hb)
  have Js_29 := Lib.hid (Ints.of_own oo (smallQ cs))
  have Jk_29 := Lib.hid (Jk_28.out.below hb)
  clear Jk_28
  clear oo hb
  go_wp2_with fail
  refine (toI_any fa fc first _ (Hf.out.on (FM.out _ T29.out).1.2) cf).mono ?_
  rintro e w30 ⟨zf, rfl, oo, hb⟩
  have T30 := Lib.hid (Below.on T29.out hb)
  have Jf_30 := Lib.hid (Ints.of_own oo (smallQ cf))
  have Jk_30 := Lib.hid (Jk_29.out.below hb)
  clear Jk_29
  have Js_30 := Lib.hid (Js_29.out.below hb)
  clear Js_29
  clear oo hb
  go_wp2_with fail
  refine (toI_any ga gc second _ (Hg.out.on (FM.out _ T30.out).1.2) cg).mono ?_
  rintro e w31 ⟨zg, rfl, oo, hb⟩
  have T31 := Lib.hid (Below.on T30.out hb)
  have Jg_31 := Lib.hid (Ints.of_own oo (smallQ cg))
  have Jk_31 := Lib.hid (Jk_30.out.below hb)
  clear Jk_30
  have Js_31 := Lib.hid (Js_30.out.below hb)
  clear Js_30
  have Jf_31 := Lib.hid (Jf_30.out.below hb)
  clear Jf_30
  clear oo hb
  go_wp2_with fail
  refine (isof_any g need ask _ _ _ _ keys secrets first second _ (HG.out.on (FM.out _ T31.out).1.2) Jk_31.out Js_31.out Jf_31.out Jg_31.out).mono ?_
  rintro e w32 ⟨u1, u2, u3, rfl, ho, hb⟩
  rw [HBB.out, HSS.out, HXS.out, HTS.out] at ho
  rw [HBB.out, HQ.out]
  obtain ⟨sE, sF, e1⟩ := Own.form ho.s
  obtain ⟨xE, xF, e2⟩ := Own.form ho.x
  obtain ⟨tE, tF, e3⟩ := Own.form ho.t
  subst e1 e2 e3
  obtain ⟨wd, hwd⟩ : ∃ z, z = w32.alloc (.cells #[.slice sE SS.length sF, .int .i64 q, .slice xE XS.length xF, .slice tE TS.length tF] 24) := ⟨_, rfl⟩
  have TD := Lib.hid (show Below w26.heap.size w26 wd by rw [hwd]; exact Below.on T31.out (Below.on hb (below_grow _ _)))
  have OD := Lib.hid (show OwnS wd w31.heap.size w32.heap.size (.slice sE SS.length sF) (.slice xE XS.length xF) (.slice tE TS.length tF) SS XS TS by rw [hwd]; exact ho.on (below_grow _ _))
  have XD := Lib.hid (show Box wd w32.heap.size [.slice sE SS.length sF, .int .i64 q, .slice xE XS.length xF, .slice tE TS.length tF] by rw [hwd]; exact Box.made w32 _ _)
  have HWD := Lib.hid hwd
  clear ho hb hwd
  have q0 := (XD.out).cell 0; have q1 := (XD.out).cell 1; have q2_ := (XD.out).cell 2; have q3 := (XD.out).cell 3
  have p0 := ((FM.out _ TD.out).1.1.1).cell 0; have p1 := ((FM.out _ TD.out).1.1.1).cell 1; have p2 := ((FM.out _ TD.out).1.1.1).cell 2; have p3 := ((FM.out _ TD.out).1.1.1).cell 3
  simp at q0 q1 q2_ q3 p0 p1 p2 p3
  rw [HWD.out] at q0 q1 q2_ q3 p0 p1 p2 p3
  go_wp2_with fail
  rw [← HWD.out]
  refine (eqsm_any q _ _ _ _ _ _ SS XS TS _ (Ints.of_own OD.out.s (Nat.le_trans lS HM4.out)) (Ints.of_own OD.out.x (Nat.le_trans lX HM4.out)) (Ints.of_own OD.out.t (Nat.le_trans lT HM4.out)) (Ints.of_own (FM.out _ TD.out).1.1.2.s (Nat.le_trans lS HM4.out)) (Ints.of_own (FM.out _ TD.out).1.1.2.x (Nat.le_trans lX HM4.out)) (Ints.of_own (FM.out _ TD.out).1.1.2.t (Nat.le_trans lT HM4.out))).mono ?_
  rintro e w33 ⟨rfl, hb⟩
  have T33 := Lib.hid (Below.on TD.out hb)
  clear q0 q1 q2_ q3 p0 p1 p2 p3 hb HWD OD XD
  have q0 := (FM.out _ T33.out).2.2.cell 0; have q1 := (FM.out _ T33.out).2.2.cell 1; have q2_ := (FM.out _ T33.out).2.2.cell 2; have q3 := (FM.out _ T33.out).2.2.cell 3
  simp at q0 q1 q2_ q3
  go_wp2_with fail
  refine (helds_any q _ _ _ (markTo SS 1 SS.length) (markTo XS (1 + SS.length) XS.length) (markTo TS (1 + SS.length + XS.length) TS.length) 1 _ (Ints.of_own (FM.out _ T33.out).2.1.s (by rw [markTo_len]; exact (Nat.le_trans lS HM4.out))) (Ints.of_own (FM.out _ T33.out).2.1.x (by rw [markTo_len]; exact (Nat.le_trans lX HM4.out))) (Ints.of_own (FM.out _ T33.out).2.1.t (by rw [markTo_len]; exact (Nat.le_trans lT HM4.out))) (by rw [markTo_len]; omega) (by rw [markTo_len]; omega) (by rw [markTo_len]; omega) (by omega) (by omega) (fun j hj => markTo_nth _ _ _ (Nat.le_refl _) j (by rwa [markTo_len] at hj)) (fun j hj => by rw [markTo_len, markTo_nth _ _ _ (Nat.le_refl _) j (by rwa [markTo_len] at hj)]) (fun j hj => by rw [markTo_len, markTo_len, markTo_nth _ _ _ (Nat.le_refl _) j (by rwa [markTo_len] at hj)])).mono ?_
  rintro e w34 ⟨rfl, hb⟩
  rw [markTo_len, markTo_len, markTo_len, HMV.out]
  have T34 := Lib.hid (Below.on T33.out hb)
  clear hb q0 q1 q2_ q3
  go_wp2
  go_ret
  exact ⟨rfl, (FM.out _ T34.out).1.2⟩
end Go.Proofs.YtacalanlepjljaaDoor
