/- The law FnOrderThen, walked. -/
import Derived.Test.YtipndddmjgjgpabDoorDrI
import Derived.Test.YtipndddmjgjgpabDoorGphJ
import Derived.Test.YtipndddmjgjgpabDoorGphT
import Derived.Test.YtipndddmjgjgpabDoorLwOrderOk
import Derived.Deep.Cut
namespace Go.Proofs.YtipndddmjgjgpabDoor
open Go.RowKit

theorem thn_back {a b : List Int} (h : thB a b = true) : odB (thn a b) a.length = true ∧ thL (bkL a) (thL a b) = b := by
  obtain ⟨h1, h2⟩ := thB_true.1 h
  have o1 := thn_od h1 h2
  have o2 := bck_od h1
  refine ⟨odB_true.2 o1, ?_⟩
  rw [thL_yes h, bkL_yes (odB_true.2 h1), thL_yes (thB_true.2 ⟨by rw [bck_len]; exact o2, by rw [bck_len]; exact o1⟩), bck_thn h1 h2]

set_option maxRecDepth 20000 in
set_option maxHeartbeats 6400000 in
theorem lOrderThen_walk (s : Value) (w : World) (h : CodeIn w s) (G : Gr w) : Calls Tryd.prog 6 #[s] w fun e w' => e = .returned (.bool true) ∧ Below w.heap.size w w' := by
  obtain ⟨a0, len0, cap0, rfl⟩ := h.slice
  have H := Lib.hid h; clear h
  have G0 := Lib.hid G; clear G
  by_cases hl : 1048576 < len0
  · go_enter Tryd.func6, Tryd.ntmps6
    go_wp2
    go_ret
    exact ⟨rfl, Below.refl _ _⟩
  go_enter Tryd.func6, Tryd.ntmps6
  go_wp2_with fail
  refine (drawOrderThen_any _ _ H.out).mono ?_
  rintro e w1 ⟨v, xs, u, ys, rfl, hx, hy, hb⟩
  have LX := Lib.hid hx
  have LY := Lib.hid hy
  have T1 := Lib.hid hb
  clear hx hy hb
  obtain ⟨va, vc, e1⟩ := Own.form_ints LX.out.ints
  obtain ⟨ua, uc, e2⟩ := Own.form_ints LY.out.ints
  subst e1 e2
  go_wp2_with fail
  refine (ithn_any _ _ xs ys _ LX.out.ints LY.out.ints LX.out.cap LY.out.cap).mono ?_
  rintro e w2 ⟨z, rfl, oz, hb⟩
  have X2 := Lib.hid (LX.out.below hb)
  have Y2 := Lib.hid (LY.out.below hb)
  have T2 := Lib.hid (Below.on T1.out hb)
  have Z2 := Lib.hid oz
  clear hb LX LY T1 oz
  go_wp2_with fail
  refine (sthn_any _ _ xs ys _ X2.out.ints Y2.out.ints).mono ?_
  rintro e w3 ⟨z', rfl, oz, hb⟩
  have X3 := Lib.hid (X2.out.below hb)
  have Y3 := Lib.hid (Y2.out.below hb)
  have T3 := Lib.hid (Below.on T2.out hb)
  have Z3 := Lib.hid (own_below Z2.out hb)
  have HL := Lib.hid (show (thL xs ys).length ≤ 100 by unfold thL; split; · { rw [thn_len]; have := X3.out.few; omega }; · simp)
  have hll : (thL xs ys).length ≤ maxLen := by unfold maxLen; have := HL.out; omega
  go_wp2_with fail
  refine (same_eq z z' (thL xs ys) _ (Ints.of_own Z3.out hll) (Ints.of_own oz hll)).mono ?_
  rintro e w4 ⟨rfl, hb'⟩
  have X4 := Lib.hid (X3.out.below hb')
  have Y4 := Lib.hid (Y3.out.below hb')
  have T4 := Lib.hid (Below.on T3.out hb')
  have Z4 := Lib.hid (own_below Z3.out hb')
  clear hb hb' oz X2 Y2 T2 Z2 X3 Y3 T3 Z3
  obtain ⟨za, zc, e3⟩ := Own.form Z4.out
  subst e3
  cases hT : thB xs ys
  · have h0 : (thL xs ys).length = 0 := by rw [thL_no hT]; rfl
    rw [h0]
    go_wp2_with fail
    refine (alive_any _ (G0.out.on T4.out)).mono ?_
    rintro e wz ⟨rfl, rfl⟩
    go_wp2
    go_ret
    exact ⟨rfl, T4.out⟩
  · have HB := Lib.hid (thn_back hT)
    obtain ⟨h1, h2⟩ := thB_true.1 hT
    have h1p := h1.m1
    have hL : (thL xs ys).length = xs.length := by rw [thL_yes hT, thn_len]
    have HLL := Lib.hid hL
    have HY := Lib.hid hT
    obtain ⟨k, hk⟩ : ∃ k, xs.length = k := ⟨_, rfl⟩
    have HK := Lib.hid hk
    have hk0 : ((k : Int) == 0) = false := by simp; omega
    rw [hL] at Z4 ⊢
    rw [hk] at X4 Z4 ⊢
    clear hL hk h1 h2 hT h1p hll
    go_wp2_with fail
    refine (iod_any _ (thL xs ys) k _ (Ints.of_own Z4.out (by rw [HLL.out, HK.out]; have := X4.out.few; have := HK.out; unfold maxLen; omega)) Z4.out.capped).mono ?_
    rintro e w5 ⟨rfl, hb⟩
    have X5 := Lib.hid (X4.out.below hb)
    have Y5 := Lib.hid (Y4.out.below hb)
    have T5 := Lib.hid (Below.on T4.out hb)
    have Z5 := Lib.hid (own_below Z4.out hb)
    clear hb X4 Y4 T4 Z4
    rw [show odB (thL xs ys) k = true by rw [thL_yes HY.out, ← HK.out]; exact HB.out.1]
    go_wp2_with fail
    refine (ibck_any _ xs _ X5.out.ints X5.out.cap).mono ?_
    rintro e w6 ⟨b, rfl, ob, hb⟩
    have Y6 := Lib.hid (Y5.out.below hb)
    have T6 := Lib.hid (Below.on T5.out hb)
    have Z6 := Lib.hid (own_below Z5.out hb)
    have hbl : (bkL xs).length ≤ maxLen := by unfold bkL; split; · { rw [bck_len]; have := X5.out.few; unfold maxLen; omega }; · simp
    go_wp2_with fail
    refine (ithn_any b _ (bkL xs) (thL xs ys) _ (Ints.of_own ob hbl) (Ints.of_own Z6.out (by have := HL.out; unfold maxLen; omega)) ob.capped Z6.out.capped).mono ?_
    rintro e w7 ⟨r, rfl, or, hb'⟩
    have Y7 := Lib.hid (Y6.out.below hb')
    have T7 := Lib.hid (Below.on T6.out hb')
    rw [HB.out.2] at or
    go_wp2_with fail
    refine (same_eq r _ ys _ (Ints.of_own or (by have := Y7.out.few; unfold maxLen; omega)) Y7.out.ints).mono ?_
    rintro e w8 ⟨rfl, hb''⟩
    have T8 := Lib.hid (Below.on T7.out hb'')
    go_wp2
    go_ret
    exact ⟨rfl, T8.out⟩
end Go.Proofs.YtipndddmjgjgpabDoor
