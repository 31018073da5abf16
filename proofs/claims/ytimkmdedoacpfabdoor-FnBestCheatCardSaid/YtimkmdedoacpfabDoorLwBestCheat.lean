/- The law FnBestCheat, walked. -/
import Derived.Test.YtimkmdedoacpfabDoorRegionM
import Derived.Test.YtimkmdedoacpfabDoorDrN
import Derived.Test.YtimkmdedoacpfabDoorFouS
import Derived.Test.YtimkmdedoacpfabDoorColB
import Derived.Test.YtimkmdedoacpfabDoorColK
import Derived.Test.YtimkmdedoacpfabDoorLwOrderOk
import Derived.Deep.Cut
namespace Go.Proofs.YtimkmdedoacpfabDoor
open Go.RowKit

/-- What the law says of a graph: P40. -/
structure BcFacts (p : Int) (es XS : List Int) (NN : Int) : Prop where
  ok : fitB p es XS = true
  is : ((foL p es XS).length : Int) = NN
  ge : 0 ≤ NN
  le : NN ≤ 50
  zero : NN = 0 ↔ 0 < (colsB p es).length
  third : 3 * NN ≤ (es.length : Int)
  num : ∀ j, j < XS.length → intIn (nth XS j)
theorem bc_facts {p : Int} {es : List Int} (h : gkB p es = true) : BcFacts p es (bstB p es).1 (bstB p es).2 := by
  have hg := gkB_true.1 h
  have b := bst_facts hg
  have hf : fitB p es (bst p es).1 = true := fitB_true.2 b.fit
  rw [bstB_yes h]
  refine ⟨hf, by rw [foL_yes hf]; exact b.is, b.ge, ?_, by rw [colsB_yes h]; exact b.zero, b.third, fun j hj => ?_⟩
  · have := b.is
    have := foL_few (p := p) (es := es) (cs := (bst p es).1)
    rw [foL_yes hf] at this
    omega
  · have := b.fit.bd j hj
    exact ⟨by omega, by omega⟩
theorem no_facts {p : Int} {es : List Int} (h : gkB p es = false) : (bstB p es).1 = [] ∧ (bstB p es).2 = -1 := by
  rw [bstB_no h]; exact ⟨rfl, rfl⟩

set_option maxRecDepth 100000 in
set_option maxHeartbeats 12800000 in
theorem lBestCheat_walk (s : Value) (w : World) (h : CodeIn w s) (G : Gr w) : Calls Tryd.prog 9 #[s] w fun e w' => e = .returned (.bool true) ∧ Below w.heap.size w w' := by
  obtain ⟨a0, len0, cap0, rfl⟩ := h.slice
  have H := Lib.hid h; clear h
  have G0 := Lib.hid G; clear G
  by_cases hl : 1048576 < len0
  · go_enter Tryd.func9, Tryd.ntmps9
    go_wp2
    go_ret
    exact ⟨rfl, Below.refl _ _⟩
  go_enter Tryd.func9, Tryd.ntmps9
  go_wp2_with fail
  refine (drawBestCheat_any _ _ H.out).mono ?_
  rintro e w1 ⟨p, v, es, rfl, p0, p5, hx, hb⟩
  have HX := Lib.hid hx
  clear hx
  have S1 := Lib.hid (Lq.start hb)
  clear hb
  have ip : intIn p := ⟨by omega, by omega⟩
  have IP := Lib.hid ip
  clear ip
  obtain ⟨va, vc, e1⟩ := Own.form_ints HX.out.ints
  subst e1
  obtain ⟨XS, hXS⟩ : ∃ r, (bstB p es).1 = r := ⟨_, rfl⟩
  obtain ⟨NN, hNN⟩ : ∃ r, (bstB p es).2 = r := ⟨_, rfl⟩
  have HXL : Hid (XS.length ≤ maxLen) := Lib.hid (by rw [← hXS]; exact Nat.le_trans bstB_few (by unfold maxLen; omega))
  have HBY := Lib.hid (show gkB p es = true → BcFacts p es XS NN from fun h => by rw [← hXS, ← hNN]; exact bc_facts h)
  have HBN := Lib.hid (show gkB p es = false → XS = [] ∧ NN = -1 from fun h => by rw [← hXS, ← hNN]; exact no_facts h)
  have HXS := Lib.hid hXS
  have HNN := Lib.hid hNN
  clear hXS hNN
  have S2 := Lib.hid (S1.out.more HX.out)
  clear S1
  clear HX
  obtain ⟨w2, hw2⟩ : ∃ z, z = w1.alloc (.cells #[.int .i64 p, .slice va es.length vc] 25) := ⟨_, rfl⟩
  have S3 : Hid (Lq w [(.slice va es.length vc, es)] [(w1.heap.size, [.int .i64 p, .slice va es.length vc])] [] w2) := Lib.hid (by rw [hw2]; exact S2.out.made [.int .i64 p, .slice va es.length vc] _)
  clear S2
  have Hw2 := Lib.hid hw2
  clear hw2
  have q3_0 := (S3.out.sx.bx _ (.head _)).cell 0
  have q3_1 := (S3.out.sx.bx _ (.head _)).cell 1
  simp at q3_0 q3_1
  rw [Hw2.out] at q3_0 q3_1
  go_wp2_with fail
  rw [← Hw2.out]
  refine (ibc_any p _ es _ (S3.out.li _ (.head _)).ints (S3.out.li _ (.head _)).num).mono ?_
  rintro e w3 ⟨v9, rfl, oo, hb⟩
  rw [HNN.out]
  rw [HXS.out] at oo
  obtain ⟨A1, A1c, ef⟩ := Own.form oo
  subst ef
  clear q3_0 q3_1
  have S4 := Lib.hid (S3.out.on hb)
  clear S3
  have S5 := Lib.hid (S4.out.add (Hl.mk1 oo))
  clear S4
  clear hb oo
  have q3_0 := (S5.out.sx.bx _ (.head _)).cell 0
  have q3_1 := (S5.out.sx.bx _ (.head _)).cell 1
  simp at q3_0 q3_1
  go_wp2_with fail
  refine (sbc_any p _ es _ (S5.out.li _ (.head _)).ints IP.out (S5.out.li _ (.head _)).num).mono ?_
  rintro e w4 ⟨v9, rfl, oo, hb⟩
  rw [HNN.out]
  rw [HXS.out] at oo
  obtain ⟨A2, A2c, ef⟩ := Own.form oo
  subst ef
  clear q3_0 q3_1
  have S6 := Lib.hid (S5.out.on hb)
  clear S5
  have S7 := Lib.hid (S6.out.add (Hl.mk1 oo))
  clear S6
  clear hb oo
  have hd : (NN == NN) = true := by simp
  have hd2 : (NN != NN) = false := by simp
  go_wp2_with fail
  refine (same_eq _ _ XS _ (Ints.of_own (S7.out.sx.ls _ (.tail _ (.head _))).1 HXL.out) (Ints.of_own (S7.out.sx.ls _ (.head _)).1 HXL.out)).mono ?_
  rintro e w5 ⟨rfl, hb⟩
  have S8 := Lib.hid (S7.out.on hb)
  clear S7
  clear hb
  cases hk : gkB p es
  · obtain ⟨rfl, rfl⟩ := HBN.out hk
    clear hd hd2
    go_wp2_with fail
    refine (alive_any _ (G0.out.on S8.out.sx.be)).mono ?_
    rintro e wz ⟨rfl, rfl⟩
    go_wp2
    go_ret
    exact ⟨rfl, S8.out.sx.be⟩
  · have F := HBY.out hk
    have hge := F.ge
    have hle := F.le
    have HF := Lib.hid F
    have hlt : ¬ NN < 0 := by omega
    clear hk F
    have q3_0 := (S8.out.sx.bx _ (.head _)).cell 0
    have q3_1 := (S8.out.sx.bx _ (.head _)).cell 1
    simp at q3_0 q3_1
    go_wp2_with fail
    refine (ifo_any p _ _ es XS _ (S8.out.li _ (.head _)).ints (Ints.of_own (S8.out.sx.ls _ (.tail _ (.head _))).1 HXL.out) (S8.out.li _ (.head _)).num).mono ?_
    rintro e w6 ⟨v9, rfl, oo, hb⟩
    rw [HF.out.ok]
    obtain ⟨ML, hML⟩ : ∃ r, (foL p es XS).length = r := ⟨_, rfl⟩
    have hm := HF.out.is
    rw [hML] at hm
    obtain ⟨A3, A3c, ef⟩ := Own.form oo
    rw [hML] at ef
    subst ef
    clear q3_0 q3_1
    have S9 := Lib.hid (S8.out.on hb)
    clear S8
    clear hb oo hML
    have hd3 : ((ML : Int) == NN) = true := by simp [hm]
    have q3_0 := (S9.out.sx.bx _ (.head _)).cell 0
    have q3_1 := (S9.out.sx.bx _ (.head _)).cell 1
    simp at q3_0 q3_1
    go_wp2_with fail
    refine (ico_any p _ es _ (S9.out.li _ (.head _)).ints (S9.out.li _ (.head _)).num).mono ?_
    rintro e w7 ⟨v8, us, rfl, oo, hb⟩
    obtain ⟨A4, A4c, ef⟩ := OwnSS.form oo
    obtain ⟨LL, hLL⟩ : ∃ r, (colsB p es).length = r := ⟨_, rfl⟩
    have hz := HF.out.zero
    have ht := HF.out.third
    rw [hLL] at ef hz
    subst ef
    clear q3_0 q3_1
    have S10 := Lib.hid (S9.out.on hb)
    clear S9
    clear hb oo hLL
    have q3_0 := (S10.out.sx.bx _ (.head _)).cell 0
    have q3_1 := (S10.out.sx.bx _ (.head _)).cell 1
    simp at q3_0 q3_1
    by_cases h0 : NN = 0
    · have hL : 0 < LL := hz.1 h0
      have hL2 : (0 : Int) < (LL : Int) := by omega
      have hd4 : (NN == 0) = true := by simp [h0]
      go_wp2
      go_ret
      exact ⟨rfl, S10.out.sx.be⟩
    · have hL : ¬ 0 < LL := fun h => h0 (hz.2 h)
      have hL2 : ¬ (0 : Int) < (LL : Int) := by omega
      have hd4 : (NN == 0) = false := by simpa using h0
      go_wp2
      go_ret
      exact ⟨rfl, S10.out.sx.be⟩
end Go.Proofs.YtimkmdedoacpfabDoor
