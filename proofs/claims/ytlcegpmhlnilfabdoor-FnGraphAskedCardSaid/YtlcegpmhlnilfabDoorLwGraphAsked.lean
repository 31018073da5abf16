/- The law FnGraphAsked, walked. -/
import Derived.Test.YtlcegpmhlnilfabDoorGaI
import Derived.Test.YtlcegpmhlnilfabDoorDrG9
import Derived.Test.YtlcegpmhlnilfabDoorRegionM
import Derived.Test.YtlcegpmhlnilfabDoorLwOrderOk
namespace Go.Proofs.YtlcegpmhlnilfabDoor
open Go.RowKit

set_option maxRecDepth 100000 in
set_option maxHeartbeats 6400000 in
theorem lGraphAsked_walk (s : Value) (w : World) (h : CodeIn w s) (G : Gr w) : Calls Tryd.prog 9 #[s] w fun e w' => e = .returned (.bool true) ∧ Below w.heap.size w w' := by
  obtain ⟨a0, len0, cap0, rfl⟩ := h.slice
  have H := Lib.hid h; clear h
  have G0 := Lib.hid G; clear G
  by_cases hl : 1048576 < len0
  · go_enter Tryd.func9, Tryd.ntmps9
    go_wp2
    go_ret
    exact ⟨rfl, Below.refl _ _⟩
  go_enter Tryd.func9, Tryd.ntmps9
  go_wp2_with fail
  refine (drawGraphAsked_any _ _ H.out).mono ?_
  rintro e w1 ⟨av, l, p, v, es, rfl, p0, p5, hI, hx, hb⟩
  have HX := Lib.hid hx
  have HI := Lib.hid (show ∀ w', Below w1.heap.size w1 w' → Ints w' av l from fun w' hb' => hI.below hb')
  have HBB := Lib.hid (Below.refl w1.heap.size w1)
  clear hx hI
  have S1 := Lib.hid (Lq.start hb)
  clear hb
  have ip : intIn p := ⟨by omega, by omega⟩
  have IP := Lib.hid ip
  clear ip
  obtain ⟨va, vc, e1⟩ := Own.form_ints HX.out.ints
  subst e1
  obtain ⟨NN, hNN⟩ : ∃ r, gasB l p es = r := ⟨_, rfl⟩
  have HNO := Lib.hid (show ¬ (fouB l = true ∧ gkB p es = true) → NN = -1 from fun h => by
    rw [← hNN]
    cases h1 : fouB l
    · exact gas_no1 h1
    · cases h2 : gkB p es
      · exact gas_no2 h2
      · exact absurd ⟨h1, h2⟩ h)
  have HYES := Lib.hid (show fouB l = true → gkB p es = true → (NN = 0 ∨ NN = 1) ∧ hasB l NN = true from fun h1 h2 => by
    rw [← hNN]
    exact ⟨gas_bit h1 h2, by rw [gas_yes h1 h2]; exact has_yes (by rw [(fouB_true.1 h1).1]; exact knd_lt es) rfl⟩)
  have HNN := Lib.hid hNN
  clear hNN
  have S2 := Lib.hid (S1.out.more HX.out)
  clear S1
  clear HX
  have TB := Lib.hid (Below.refl w1.heap.size w1)
  obtain ⟨w2, hw2⟩ : ∃ z, z = w1.alloc (.cells #[.int .i64 p, .slice va es.length vc] 25) := ⟨_, rfl⟩
  have S3 : Hid (Lq w [(.slice va es.length vc, es)] [(w1.heap.size, [.int .i64 p, .slice va es.length vc])] [] w2) := Lib.hid (by rw [hw2]; exact S2.out.made [.int .i64 p, .slice va es.length vc] _)
  clear S2
  have Hw2 := Lib.hid hw2
  clear hw2
  have TBa := Lib.hid (show Below w1.heap.size w1 w2 by rw [Hw2.out]; exact below_grow _ _)
  clear TB
  have q3_0 := (S3.out.sx.bx _ (.head _)).cell 0
  have q3_1 := (S3.out.sx.bx _ (.head _)).cell 1
  simp at q3_0 q3_1
  rw [Hw2.out] at q3_0 q3_1
  go_wp2_with fail
  rw [← Hw2.out]
  refine (igas_any av _ l es p _ (HI.out _ TBa.out) (S3.out.li _ (.head _)).ints (S3.out.li _ (.head _)).num).mono ?_
  rintro e w3 ⟨rfl, hb⟩
  rw [HNN.out]
  clear q3_0 q3_1
  have TB1 := Lib.hid (Below.on TBa.out hb)
  clear TBa
  have S4 := Lib.hid (S3.out.on hb)
  clear S3
  clear hb
  have q3_0 := (S4.out.sx.bx _ (.head _)).cell 0
  have q3_1 := (S4.out.sx.bx _ (.head _)).cell 1
  simp at q3_0 q3_1
  go_wp2_with fail
  refine (sgas_any av _ l es p _ (HI.out _ TB1.out) (S4.out.li _ (.head _)).ints IP.out (S4.out.li _ (.head _)).num).mono ?_
  rintro e w4 ⟨rfl, hb⟩
  rw [HNN.out]
  clear q3_0 q3_1
  have TB2 := Lib.hid (Below.on TB1.out hb)
  clear TB1
  have S5 := Lib.hid (S4.out.on hb)
  clear S4
  clear hb
  have hnn : (NN != NN) = false := by simp
  cases h1 : fouB l
  · have hm := HNO.out (fun h => by rw [h1] at h; cases h.1)
    subst hm
    have H1 := Lib.hid h1
    clear h1 hnn
    have q3_0 := (S5.out.sx.bx _ (.head _)).cell 0
    have q3_1 := (S5.out.sx.bx _ (.head _)).cell 1
    simp at q3_0 q3_1
    go_wp2_with fail
    refine (igar_any av l _ (HI.out _ TB2.out)).mono ?_
    rintro e w5 ⟨rfl, hb⟩
    rw [H1.out]
    clear q3_0 q3_1
    have TB3 := Lib.hid (Below.on TB2.out hb)
    clear TB2
    have S6 := Lib.hid (S5.out.on hb)
    clear S5
    clear hb
    go_wp2_with fail
    refine (alive_any _ (G0.out.on S6.out.sx.be)).mono ?_
    rintro e wz ⟨rfl, rfl⟩
    go_wp2
    go_ret
    exact ⟨rfl, S6.out.sx.be⟩
  · cases h2 : gkB p es
    · have hm := HNO.out (fun h => by rw [h2] at h; cases h.2)
      subst hm
      have H1 := Lib.hid h1
      have H2 := Lib.hid h2
      clear h1 h2 hnn
      have q3_0 := (S5.out.sx.bx _ (.head _)).cell 0
      have q3_1 := (S5.out.sx.bx _ (.head _)).cell 1
      simp at q3_0 q3_1
      go_wp2_with fail
      refine (igar_any av l _ (HI.out _ TB2.out)).mono ?_
      rintro e w6 ⟨rfl, hb⟩
      rw [H1.out]
      clear q3_0 q3_1
      have TB3 := Lib.hid (Below.on TB2.out hb)
      clear TB2
      have S7 := Lib.hid (S5.out.on hb)
      clear S5
      clear hb
      have q3_0 := (S7.out.sx.bx _ (.head _)).cell 0
      have q3_1 := (S7.out.sx.bx _ (.head _)).cell 1
      simp at q3_0 q3_1
      go_wp2_with fail
      refine (igk_is H2.out (S7.out.li _ (.head _)).ints (S7.out.li _ (.head _)).num).mono ?_
      rintro e w7 ⟨rfl, hb⟩
      clear q3_0 q3_1
      have TB4 := Lib.hid (Below.on TB3.out hb)
      clear TB3
      have S8 := Lib.hid (S7.out.on hb)
      clear S7
      clear hb
      go_wp2_with fail
      refine (alive_any _ (G0.out.on S8.out.sx.be)).mono ?_
      rintro e wz ⟨rfl, rfl⟩
      go_wp2
      go_ret
      exact ⟨rfl, S8.out.sx.be⟩
    · have hy := HYES.out h1 h2
      have HH := Lib.hid hy.2
      have hb01 := hy.1
      have hq : (NN == -1) = false := by rw [beq_eq_false_iff_ne]; omega
      clear h1 h2 hy hb01 hnn
      go_wp2_with fail
      refine (has_any av l NN _ (HI.out _ TB2.out)).mono ?_
      rintro e w9 ⟨rfl, rfl⟩
      rw [HH.out]
      have HBE := Lib.hid S5.out.sx.be
      go_wp2_with fail
      refine (alive_any _ (G0.out.on HBE.out)).mono ?_
      rintro e wz ⟨rfl, rfl⟩
      go_wp2
      go_ret
      exact ⟨rfl, HBE.out⟩
end Go.Proofs.YtlcegpmhlnilfabDoor
