/- The law FnColoured, walked. -/
import Derived.Test.YtimkmdedoacpfabDoorDrQ
import Derived.Test.YtimkmdedoacpfabDoorColK
import Derived.Test.YtimkmdedoacpfabDoorColS
import Derived.Test.YtimkmdedoacpfabDoorLwOrderOk
import Derived.Deep.Cut
namespace Go.Proofs.YtimkmdedoacpfabDoor
open Go.RowKit

theorem own_lit3 (w : World) (a b c : Int) : Own (w.alloc (.cells #[.int .i64 a, .int .i64 b, .int .i64 c] 3)) w.heap.size (.slice (some ⟨w.heap.size, 0, none⟩) 3 3) [a, b, c] := World.ownsRow_lit (base := w.heap.size) (e := 3) (size := 1) w #[.int .i64 a, .int .i64 b, .int .i64 c] 3 (Nat.le_refl _) (by decide) rfl
/-- What the law says of a graph painted otherwise: P37. -/
theorem cd_facts {p : Int} {es cs o : List Int} (ho : Od o 3) : ((pnL p es cs o).length = 0 → cdB p es cs = false) ∧ (0 < (pnL p es cs o).length → cdB p es (pnL p es cs o) = cdB p es cs) := by
  cases hf : fitB p es cs
  · have h1 : pnL p es cs o = [] := pnL_no (by simp [pnB, hf])
    rw [h1]
    exact ⟨fun _ => by simp [cdB, hf], fun h => by simp at h⟩
  · have f := fitB_true.1 hf
    have h1 : pnL p es cs o = thn cs o := pnL_yes (pnB_true.2 ⟨f, ho⟩)
    rw [h1]
    refine ⟨fun h => ?_, fun _ => ?_⟩
    · rw [thn_len] at h; have := f.len; have := f.gk.p1; omega
    · have g := f.paint ho
      simp only [cdB, hf, fitB_true.2 g, f.paint_fls ho]

set_option maxRecDepth 100000 in
set_option maxHeartbeats 12800000 in
theorem lColoured_walk (s : Value) (w : World) (h : CodeIn w s) (G : Gr w) : Calls Tryd.prog 4 #[s] w fun e w' => e = .returned (.bool true) ∧ Below w.heap.size w w' := by
  obtain ⟨a0, len0, cap0, rfl⟩ := h.slice
  have H := Lib.hid h; clear h
  have G0 := Lib.hid G; clear G
  by_cases hl : 1048576 < len0
  · go_enter Tryd.func4, Tryd.ntmps4
    go_wp2
    go_ret
    exact ⟨rfl, Below.refl _ _⟩
  go_enter Tryd.func4, Tryd.ntmps4
  go_wp2_with fail
  refine (drawColoured_any _ _ H.out).mono ?_
  rintro e w1 ⟨p, v, es, u, cs, rfl, p0, p5, hx, hy, hb⟩
  have HX := Lib.hid hx
  have HY := Lib.hid hy
  clear hx hy
  have S1 := Lib.hid (Lq.start hb)
  clear hb
  have ip : intIn p := ⟨by omega, by omega⟩
  have IP := Lib.hid ip
  clear ip
  obtain ⟨va, vc, e1⟩ := Own.form_ints HX.out.ints
  subst e1
  obtain ⟨ua, uc, e2⟩ := Own.form_ints HY.out.ints
  subst e2
  have S2 := Lib.hid (S1.out.more HY.out)
  clear S1
  have S3 := Lib.hid (S2.out.more HX.out)
  clear S2
  clear HX HY
  obtain ⟨w2, hw2⟩ : ∃ z, z = w1.alloc (.cells #[.int .i64 p, .slice va es.length vc] 25) := ⟨_, rfl⟩
  have S4 : Hid (Lq w [(.slice va es.length vc, es), (.slice ua cs.length uc, cs)] [(w1.heap.size, [.int .i64 p, .slice va es.length vc])] [] w2) := Lib.hid (by rw [hw2]; exact S3.out.made [.int .i64 p, .slice va es.length vc] _)
  clear S3
  have Hw2 := Lib.hid hw2
  clear hw2
  obtain ⟨BB, hBB⟩ : ∃ r, cdB p es cs = r := ⟨_, rfl⟩
  obtain ⟨XS, hXS⟩ : ∃ r, pnL p es cs [2, 0, 1] = r := ⟨_, rfl⟩
  have HFA : Hid ((XS.length = 0 → BB = false) ∧ (0 < XS.length → cdB p es XS = BB)) := Lib.hid (by rw [← hBB, ← hXS]; exact cd_facts od3.2.2.2.1)
  have HXL : Hid (XS.length ≤ maxLen) := Lib.hid (by rw [← hXS]; exact Nat.le_trans pnL_few (by unfold maxLen; omega))
  have HBB := Lib.hid hBB
  have HXS := Lib.hid hXS
  clear hBB hXS
  have q3_0 := (S4.out.sx.bx _ (.head _)).cell 0
  have q3_1 := (S4.out.sx.bx _ (.head _)).cell 1
  simp at q3_0 q3_1
  rw [Hw2.out] at q3_0 q3_1
  go_wp2_with fail
  rw [← Hw2.out]
  refine (icd_any p _ _ es cs _ (S4.out.li _ (.head _)).ints (S4.out.li _ (.tail _ (.head _))).ints (S4.out.li _ (.head _)).num).mono ?_
  rintro e w3 ⟨rfl, hb⟩
  rw [HBB.out]
  clear q3_0 q3_1
  have S5 := Lib.hid (S4.out.on hb)
  clear S4
  clear hb
  have q3_0 := (S5.out.sx.bx _ (.head _)).cell 0
  have q3_1 := (S5.out.sx.bx _ (.head _)).cell 1
  simp at q3_0 q3_1
  go_wp2_with fail
  refine (scd_any p _ _ es cs _ (S5.out.li _ (.head _)).ints (S5.out.li _ (.tail _ (.head _))).ints IP.out (S5.out.li _ (.head _)).num).mono ?_
  rintro e w4 ⟨rfl, hb⟩
  rw [HBB.out]
  clear q3_0 q3_1
  have S6 := Lib.hid (S5.out.on hb)
  clear S5
  clear hb
  have d1 : (BB != BB) = false := by simp
  obtain ⟨wa, hwa⟩ : ∃ z, z = w4.alloc (.cells #[.int .i64 2, .int .i64 0, .int .i64 1] 3) := ⟨_, rfl⟩
  have S7 : Hid (Lq w [(.slice va es.length vc, es), (.slice ua cs.length uc, cs)] [(w1.heap.size, [.int .i64 p, .slice va es.length vc])] [] wa) := Lib.hid (by rw [hwa]; exact S6.out.on (below_grow w4 _))
  have OL : Hid (Own wa w4.heap.size (.slice (some ⟨w4.heap.size, 0, none⟩) 3 3) [2, 0, 1]) := Lib.hid (by rw [hwa]; exact own_lit3 w4 2 0 1)
  have S0 := S6
  clear S6
  have Hwa := Lib.hid hwa
  clear hwa
  have q3_0 := (S0.out.sx.bx _ (.head _)).cell 0
  have q3_1 := (S0.out.sx.bx _ (.head _)).cell 1
  simp at q3_0 q3_1
  go_wp2_with fail
  rw [← Hwa.out]
  refine (ipt_any p _ _ _ es cs [2, 0, 1] _ (S7.out.li _ (.head _)).ints (S7.out.li _ (.tail _ (.head _))).ints (Ints.of_own OL.out (by unfold maxLen; decide)) OL.out.capped (S7.out.li _ (.head _)).num).mono ?_
  rintro e w9 ⟨v9, rfl, oo, hb⟩
  rw [HXS.out] at oo
  obtain ⟨A9, C9, ef⟩ := Own.form oo
  subst ef
  clear q3_0 q3_1 S0 OL
  have S8 := Lib.hid (S7.out.on hb)
  clear S7
  have S9 := Lib.hid (S8.out.add (Hl.mk1 oo))
  clear S8
  clear hb oo
  by_cases h0 : XS.length = 0
  · obtain rfl := HFA.out.1 h0
    have hl0 : (((XS.length : Nat) : Int) == 0) = true := by simp [h0]
    clear d1 h0
    go_wp2_with fail
    refine (alive_any _ (G0.out.on S9.out.sx.be)).mono ?_
    rintro e w5 ⟨rfl, rfl⟩
    go_wp2
    go_ret
    exact ⟨rfl, S9.out.sx.be⟩
  · have hc := HFA.out.2 (by omega)
    have hl0 : (((XS.length : Nat) : Int) == 0) = false := by simpa using h0
    clear h0
    have HCC := Lib.hid hc
    clear hc
    have q3_0 := (S9.out.sx.bx _ (.head _)).cell 0
    have q3_1 := (S9.out.sx.bx _ (.head _)).cell 1
    simp at q3_0 q3_1
    go_wp2_with fail
    refine (icd_any p _ _ es XS _ (S9.out.li _ (.head _)).ints (Ints.of_own (S9.out.sx.ls _ (.head _)).1 HXL.out) (S9.out.li _ (.head _)).num).mono ?_
    rintro e w6 ⟨rfl, hb⟩
    rw [HCC.out]
    clear q3_0 q3_1
    have S10 := Lib.hid (S9.out.on hb)
    clear S9
    clear hb d1
    have d2 : (BB == BB) = true := by simp
    go_wp2
    go_ret
    exact ⟨rfl, S10.out.sx.be⟩
end Go.Proofs.YtimkmdedoacpfabDoor
