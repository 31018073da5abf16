/- The law FnSomeOf, walked. -/
import Derived.Test.YtacalanlepjljaaDoorDrawSo
import Derived.Test.YtacalanlepjljaaDoorSofI
import Derived.Test.YtacalanlepjljaaDoorSofS
import Derived.Test.YtacalanlepjljaaDoorPolY
import Derived.Test.YtacalanlepjljaaDoorLawR
import Derived.Test.YtacalanlepjljaaDoorLawsA
namespace Go.Proofs.YtacalanlepjljaaDoor
open Go.RowKit

set_option maxHeartbeats 1600000 in
theorem sameSome_eq (q : Int) (sv xv tv sv' xv' tv' : Value) (ss xs ts : List Int) (w : World) (h1 : Ints w sv ss) (h2 : Ints w xv xs) (h3 : Ints w tv ts) (h4 : Ints w sv' ss) (h5 : Ints w xv' xs) (h6 : Ints w tv' ts) :
    Calls Tryd.prog 30 #[.agg #[sv, .int .i64 q, xv, tv], .agg #[sv', .int .i64 q, xv', tv']] w fun e w' => e = .returned (.bool true) ∧ Below w.heap.size w w' := by
  have H1 := Lib.hid h1; have H2 := Lib.hid h2; have H3 := Lib.hid h3; have H4 := Lib.hid h4; have H5 := Lib.hid h5; have H6 := Lib.hid h6
  have HB0 := Lib.hid (Below.on (below_grow w (.cells #[sv, .int .i64 q, xv, tv] 24)) (below_grow _ (.cells #[sv', .int .i64 q, xv', tv'] 24)))
  have hqq : (q == q) = true := by simp
  clear h1 h2 h3 h4 h5 h6
  go_enter Tryd.func30, Tryd.ntmps30
  go_wp2_with fail
  refine (same_eq sv sv' ss _ (H1.out.below HB0.out) (H4.out.below HB0.out)).mono ?_
  rintro e w1 ⟨rfl, hb1⟩
  obtain ⟨P1, R1, L1⟩ := boxes2 hb1
  have HB := Lib.hid L1
  have PP := Lib.hid P1; have RR := Lib.hid R1
  have c0 := P1.cell 1; have c1 := R1.cell 1; have c2 := P1.cell 2; have c3 := R1.cell 2
  simp at c0 c1 c2 c3
  clear P1 R1 L1 hb1
  go_wp2_with fail
  refine (same_eq xv xv' xs _ (H2.out.below HB.out) (H5.out.below HB.out)).mono ?_
  rintro e w2 ⟨rfl, hb2⟩
  have HB2 : Hid (Below w.heap.size w w2) := Lib.hid (Below.on HB.out hb2)
  have P2 := PP.out.on hb2; have R2 := RR.out.on hb2
  clear c0 c1 c2 c3 hb2
  have c2 := P2.cell 3; have c3 := R2.cell 3
  simp at c2 c3
  clear P2 R2
  go_wp2_with fail
  refine (same_eq tv tv' ts _ (H3.out.below HB2.out) (H6.out.below HB2.out)).mono ?_
  rintro e w3 ⟨rfl, hb3⟩
  have HB3 : Hid (Below w.heap.size w w3) := Lib.hid (Below.on HB2.out hb3)
  clear hb3
  go_wp2
  go_ret
  exact ⟨rfl, HB3.out⟩

set_option maxRecDepth 20000 in
set_option maxHeartbeats 3200000 in
theorem lSomeOf_walk (s : Value) (w : World) (h : CodeIn w s) (G : Gr w) : Calls Tryd.prog 7 #[s] w fun e w' => e = .returned (.bool true) ∧ Below w.heap.size w w' := by
  obtain ⟨a0, len0, cap0, rfl⟩ := h.slice
  have H := Lib.hid h; clear h
  have G0 := Lib.hid G; clear G
  by_cases hl : 1048576 < len0
  · go_enter Tryd.func7, Tryd.ntmps7
    go_wp2
    go_ret
    exact ⟨rfl, Below.refl _ _⟩
  go_enter Tryd.func7, Tryd.ntmps7
  go_wp2_with fail
  refine (drawSomeOf_any _ _ H.out).mono ?_
  rintro e w1 ⟨g, kv, keys, need, sv, secrets, fv, first, gv, second, ask, rfl, hd, hlen, hl2, hl3, hl4, hI1, hI2, hI3, hI4, hb⟩
  obtain ⟨ka, kc, rfl, _⟩ := hI1.opened
  obtain ⟨sa, sc, rfl, _⟩ := hI2.opened
  obtain ⟨fa, fc, rfl, _⟩ := hI3.opened
  obtain ⟨ga, gc, rfl, _⟩ := hI4.opened
  have FB := Lib.hid (show ∀ w', Below w1.heap.size w1 w' → (Gr w' ∧ Ints w' (.slice ka keys.length kc) keys ∧ Ints w' (.slice sa secrets.length sc) secrets ∧ Ints w' (.slice fa first.length fc) first ∧ Ints w' (.slice ga second.length gc) second) ∧ Below w.heap.size w w' from fun w' hb' => ⟨⟨G0.out.on (Below.on hb hb'), hI1.below hb', hI2.below hb', hI3.below hb', hI4.below hb'⟩, Below.on hb hb'⟩)
  have T1 := Lib.hid (Below.refl w1.heap.size w1)
  clear hI1 hI2 hI3 hI4 hb
  obtain ⟨b, hbb⟩ : ∃ b, sofB g keys need secrets first second ask = b := ⟨_, rfl⟩
  obtain ⟨SS, hSS⟩ : ∃ l, sL b (mapTo (sofS g keys secrets first second) keys.length) = l := ⟨_, rfl⟩
  obtain ⟨XS, hXS⟩ : ∃ l, sL b (mapTo (sofX g secrets first ask keys.length) keys.length) = l := ⟨_, rfl⟩
  obtain ⟨TS, hTS⟩ : ∃ l, sL b (mapTo (sofT g secrets first second ask keys.length) keys.length) = l := ⟨_, rfl⟩
  obtain ⟨q, hq⟩ : ∃ q, sQ b ask = q := ⟨_, rfl⟩
  have HNO := Lib.hid (show b = false → SS = [] from fun e => by rw [← hSS, e]; rfl)
  have HYES := Lib.hid (show b = true → someB g keys need SS q XS TS = true ∧ q = ask from fun e => by
    rw [← hSS, ← hXS, ← hTS, ← hq, e]; exact ⟨(sofB_true.1 (hbb.trans e)).some, rfl⟩)
  have HLS := Lib.hid (show SS.length ≤ maxLen ∧ XS.length ≤ maxLen ∧ TS.length ≤ maxLen by
    rw [← hSS, ← hXS, ← hTS]
    cases b
    · exact ⟨by unfold maxLen sL; simp, by unfold maxLen sL; simp, by unfold maxLen sL; simp⟩
    · exact ⟨by show (mapTo _ _).length ≤ _; rw [mapTo_len]; unfold maxLen; omega, by show (mapTo _ _).length ≤ _; rw [mapTo_len]; unfold maxLen; omega, by show (mapTo _ _).length ≤ _; rw [mapTo_len]; unfold maxLen; omega⟩)
  have HBB := Lib.hid hbb; have HSS := Lib.hid hSS; have HXS := Lib.hid hXS; have HTS := Lib.hid hTS; have HQ := Lib.hid hq
  clear hbb hSS hXS hTS hq
  go_wp2_with fail
  refine (isof_any g need ask _ _ _ _ keys secrets first second _ (FB.out _ T1.out).1.1 (FB.out _ T1.out).1.2.1 (FB.out _ T1.out).1.2.2.1 (FB.out _ T1.out).1.2.2.2.1 (FB.out _ T1.out).1.2.2.2.2).mono ?_
  rintro e w2 ⟨s1, x1, t1, rfl, ho, hb⟩
  rw [HBB.out, HSS.out, HXS.out, HTS.out] at ho
  rw [HBB.out, HQ.out]
  obtain ⟨sA, sC, e1⟩ := Own.form ho.s
  obtain ⟨xA, xC, e2⟩ := Own.form ho.x
  obtain ⟨tA, tC, e3⟩ := Own.form ho.t
  subst e1 e2 e3
  have FA : Hid (∀ w', Below (w2.heap.size + 1) (w2.alloc (.cells #[.slice sA SS.length sC, .int .i64 q, .slice xA XS.length xC, .slice tA TS.length tC] 24)) w' → (Ints w' (.slice sA SS.length sC) SS ∧ Ints w' (.slice xA XS.length xC) XS ∧ Ints w' (.slice tA TS.length tC) TS) ∧ Box w' w2.heap.size [.slice sA SS.length sC, .int .i64 q, .slice xA XS.length xC, .slice tA TS.length tC] ∧ Below w1.heap.size w1 w') := Lib.hid fun w' hb2 => by
    have hz : (w2.alloc (.cells #[.slice sA SS.length sC, .int .i64 q, .slice xA XS.length xC, .slice tA TS.length tC] 24)).heap.size = w2.heap.size + 1 := by simp
    rw [← hz] at hb2
    have hb3 := Below.on (below_grow w2 (.cells #[.slice sA SS.length sC, .int .i64 q, .slice xA XS.length xC, .slice tA TS.length tC] 24)) hb2
    exact ⟨⟨(Ints.of_own ho.s HLS.out.1).below hb3, (Ints.of_own ho.x HLS.out.2.1).below hb3, (Ints.of_own ho.t HLS.out.2.2).below hb3⟩, (Box.made w2 [.slice sA SS.length sC, .int .i64 q, .slice xA XS.length xC, .slice tA TS.length tC] 24).on hb2, Below.on hb hb3⟩
  have T2 : Hid (Below w1.heap.size w1 (w2.alloc (.cells #[.slice sA SS.length sC, .int .i64 q, .slice xA XS.length xC, .slice tA TS.length tC] 24))) := Lib.hid (Below.on hb (below_grow w2 _))
  clear ho hb
  go_wp2_with fail
  obtain ⟨wa, hwa⟩ : ∃ z, z = w2.alloc (.cells #[.slice sA SS.length sC, .int .i64 q, .slice xA XS.length xC, .slice tA TS.length tC] 24) := ⟨_, rfl⟩
  have hza : wa.heap.size = w2.heap.size + 1 := by rw [hwa]; simp
  rw [← hwa] at FA T2 ⊢
  rw [← hza] at FA
  have HZA := Lib.hid hza
  clear hwa hza
  refine (ssof_any g need ask _ _ _ _ keys secrets first second _ (FB.out _ T2.out).1.2.1 (FB.out _ T2.out).1.2.2.1 (FB.out _ T2.out).1.2.2.2.1 (FB.out _ T2.out).1.2.2.2.2).mono ?_
  rintro e w3 ⟨s2, x2, t2, rfl, ho, hb⟩
  rw [HBB.out, HSS.out, HXS.out, HTS.out] at ho
  rw [HBB.out, HQ.out]
  obtain ⟨sB, sD, e1⟩ := Own.form ho.s
  obtain ⟨xB, xD, e2⟩ := Own.form ho.x
  obtain ⟨tB, tD, e3⟩ := Own.form ho.t
  subst e1 e2 e3
  have T3 : Hid (Below wa.heap.size wa (w3.alloc (.cells #[.slice sB SS.length sD, .int .i64 q, .slice xB XS.length xD, .slice tB TS.length tD] 24))) := Lib.hid (Below.on hb (below_grow w3 _))
  have I3 : Hid (Ints (w3.alloc (.cells #[.slice sB SS.length sD, .int .i64 q, .slice xB XS.length xD, .slice tB TS.length tD] 24)) (.slice sB SS.length sD) SS ∧ Ints (w3.alloc (.cells #[.slice sB SS.length sD, .int .i64 q, .slice xB XS.length xD, .slice tB TS.length tD] 24)) (.slice xB XS.length xD) XS ∧ Ints (w3.alloc (.cells #[.slice sB SS.length sD, .int .i64 q, .slice xB XS.length xD, .slice tB TS.length tD] 24)) (.slice tB TS.length tD) TS) := Lib.hid ⟨(Ints.of_own ho.s HLS.out.1).below (below_grow w3 _), (Ints.of_own ho.x HLS.out.2.1).below (below_grow w3 _), (Ints.of_own ho.t HLS.out.2.2).below (below_grow w3 _)⟩
  have X3 : Hid (Box (w3.alloc (.cells #[.slice sB SS.length sD, .int .i64 q, .slice xB XS.length xD, .slice tB TS.length tD] 24)) w3.heap.size [.slice sB SS.length sD, .int .i64 q, .slice xB XS.length xD, .slice tB TS.length tD]) := Lib.hid (Box.made w3 _ _)
  clear ho hb
  obtain ⟨wc, hwc⟩ : ∃ z, z = w3.alloc (.cells #[.slice sB SS.length sD, .int .i64 q, .slice xB XS.length xD, .slice tB TS.length tD] 24) := ⟨_, rfl⟩
  have HWC := Lib.hid hwc
  rw [← hwc] at T3 I3 X3
  clear hwc
  have FX := Lib.hid (FA.out _ T3.out)
  have q0 := FX.out.2.1.cell 0; have q1 := FX.out.2.1.cell 1; have q2_ := FX.out.2.1.cell 2; have q3 := FX.out.2.1.cell 3
  have p0 := X3.out.cell 0; have p1 := X3.out.cell 1; have p2 := X3.out.cell 2; have p3 := X3.out.cell 3
  rw [HWC.out] at q0 q1 q2_ q3 p0 p1 p2 p3
  simp at q0 q1 q2_ q3 p0 p1 p2 p3
  have hbn : (b != b) = false := by simp
  go_wp2_with fail
  rw [← HWC.out]
  refine (sameSome_eq q _ _ _ _ _ _ SS XS TS _ FX.out.1.1 FX.out.1.2.1 FX.out.1.2.2 I3.out.1 I3.out.2.1 I3.out.2.2).mono ?_
  rintro e w4 ⟨rfl, hb⟩
  have T4 := Lib.hid (Below.on T3.out hb)
  clear hb q0 q1 q2_ q3 p0 p1 p2 p3 I3 X3 FX T3
  have FX := Lib.hid (FA.out _ T4.out)
  have q0 := FX.out.2.1.cell 0; have q1 := FX.out.2.1.cell 1; have q2_ := FX.out.2.1.cell 2; have q3 := FX.out.2.1.cell 3
  simp at q0 q1 q2_ q3
  cases b
  · have e0 := HNO.out rfl
    subst e0
    go_wp2_with fail
    refine (alive_any _ (FB.out _ FX.out.2.2).1.1).mono ?_
    rintro e wz ⟨rfl, rfl⟩
    go_wp2
    go_ret
    exact ⟨rfl, (FB.out _ FX.out.2.2).2⟩
  · obtain ⟨e1, e2⟩ := HYES.out rfl
    have HE1 := Lib.hid e1
    have hqa : (q == ask) = true := by rw [e2]; simp
    clear e1 e2
    go_wp2_with fail
    refine (isome_any g need _ keys _ q _ _ SS XS TS _ (FB.out _ FX.out.2.2).1.1 (FB.out _ FX.out.2.2).1.2.1 FX.out.1.1 FX.out.1.2.1 FX.out.1.2.2).mono ?_
    rintro e w5 ⟨rfl, hb⟩
    rw [HE1.out]
    have FY := Lib.hid (FA.out _ (Below.on T4.out hb))
    have hq5 := FY.out.2.1.cell 1
    simp at hq5
    clear q0 q1 q2_ q3 hb
    go_wp2
    go_ret
    exact ⟨rfl, (FB.out _ FY.out.2.2).2⟩
end Go.Proofs.YtacalanlepjljaaDoor
