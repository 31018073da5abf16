/- The law FnOrderBack, walked. -/
import Derived.Test.YtipndddmjgjgpabDoorDrI
import Derived.Test.YtipndddmjgjgpabDoorGphJ
import Derived.Test.YtipndddmjgjgpabDoorGphT
import Derived.Test.YtipndddmjgjgpabDoorLwOrderOk
import Derived.Test.YtipndddmjgjgpabDoorLwOrderThen
import Derived.Deep.Cut
namespace Go.Proofs.YtipndddmjgjgpabDoor
open Go.RowKit

theorem bck_facts {a : List Int} (h : odB a a.length = true) : thL a (bkL a) = idn a.length ∧ bkL (bkL a) = a ∧ (bkL a).length = a.length := by
  have h1 := odB_true.1 h
  have o2 := bck_od h1
  have hb : odB (bck a) (bck a).length = true := odB_true.2 (by rw [bck_len]; exact o2)
  rw [bkL_yes h]
  refine ⟨?_, ?_, bck_len _⟩
  · rw [thL_yes (thB_true.2 ⟨h1, o2⟩), thn_bck h1]
  · rw [bkL_yes hb, bck_bck h1]

set_option maxRecDepth 20000 in
set_option maxHeartbeats 6400000 in
theorem lOrderBack_walk (s : Value) (w : World) (h : CodeIn w s) (G : Gr w) : Calls Tryd.prog 7 #[s] w fun e w' => e = .returned (.bool true) ∧ Below w.heap.size w w' := by
  obtain ⟨a0, len0, cap0, rfl⟩ := h.slice
  have H := Lib.hid h; clear h
  have G0 := Lib.hid G; clear G
  by_cases hl : 1048576 < len0
  · go_enter Tryd.func7, Tryd.ntmps7
    go_wp2
    go_ret
    exact ⟨rfl, Below.refl _ _⟩
  go_enter Tryd.func7, Tryd.ntmps7
  go_wp2_with fail
  refine (drawOrderBack_any _ _ H.out).mono ?_
  rintro e w1 ⟨v, xs, rfl, hx, hb⟩
  have LX := Lib.hid hx
  have T1 := Lib.hid hb
  clear hx hb
  obtain ⟨va, vc, e1⟩ := Own.form_ints LX.out.ints
  subst e1
  go_wp2_with fail
  refine (ibck_any _ xs _ LX.out.ints LX.out.cap).mono ?_
  rintro e w2 ⟨z, rfl, oz, hb⟩
  have X2 := Lib.hid (LX.out.below hb)
  have T2 := Lib.hid (Below.on T1.out hb)
  have Z2 := Lib.hid oz
  clear hb LX T1 oz
  go_wp2_with fail
  refine (sbck_any _ xs _ X2.out.ints).mono ?_
  rintro e w3 ⟨z', rfl, oz, hb⟩
  have X3 := Lib.hid (X2.out.below hb)
  have T3 := Lib.hid (Below.on T2.out hb)
  have Z3 := Lib.hid (own_below Z2.out hb)
  have HL := Lib.hid (show (bkL xs).length ≤ 100 by unfold bkL; split; · { rw [bck_len]; have := X3.out.few; omega }; · simp)
  have hll : (bkL xs).length ≤ maxLen := by unfold maxLen; have := HL.out; omega
  go_wp2_with fail
  refine (same_eq z z' (bkL xs) _ (Ints.of_own Z3.out hll) (Ints.of_own oz hll)).mono ?_
  rintro e w4 ⟨rfl, hb'⟩
  have X4 := Lib.hid (X3.out.below hb')
  have T4 := Lib.hid (Below.on T3.out hb')
  have Z4 := Lib.hid (own_below Z3.out hb')
  clear hb hb' oz X2 T2 Z2 X3 T3 Z3
  obtain ⟨za, zc, e3⟩ := Own.form Z4.out
  subst e3
  cases hT : odB xs xs.length
  · have h0 : (bkL xs).length = 0 := by rw [bkL_no hT]; rfl
    rw [h0]
    go_wp2_with fail
    refine (alive_any _ (G0.out.on T4.out)).mono ?_
    rintro e wz ⟨rfl, rfl⟩
    go_wp2
    go_ret
    exact ⟨rfl, T4.out⟩
  · have HB := Lib.hid (bck_facts hT)
    have h1 := odB_true.1 hT
    have h1p := h1.m1
    have hL := HB.out.2.2
    obtain ⟨k, hk⟩ : ∃ k, xs.length = k := ⟨_, rfl⟩
    have HK := Lib.hid hk
    have hk0 : ((k : Int) == 0) = false := by simp; omega
    rw [hL] at Z4 ⊢
    rw [hk] at X4 Z4 ⊢
    clear hL hk h1 hT h1p hll
    go_wp2_with fail
    refine (ithn_any _ _ xs (bkL xs) _ X4.out.ints (Ints.of_own Z4.out (by have := HL.out; unfold maxLen; omega)) X4.out.cap Z4.out.capped).mono ?_
    rintro e w5 ⟨t, rfl, ot, hb⟩
    have X5 := Lib.hid (X4.out.below hb)
    have T5 := Lib.hid (Below.on T4.out hb)
    have Z5 := Lib.hid (own_below Z4.out hb)
    rw [HB.out.1, HK.out] at ot
    obtain ⟨ta, tc, e4⟩ := Own.form ot
    rw [idn_len] at e4
    subst e4
    have HC := Lib.hid (show ∀ j, j < k → ∃ M, ta = some ⟨M, 0, none⟩ ∧ ∀ w', Below w5.heap.size w5 w' → w'.cell? ⟨M, j, none⟩ = some (.int .i64 j) from fun j hj => by
      obtain ⟨_, _, e4, kg⟩ := (Ints.of_own ot (by rw [idn_len]; have := X5.out.few; have := HK.out; unfold maxLen; omega)).opened
      rw [idn_len] at e4
      cases e4
      obtain ⟨M, f1, hl, f2⟩ := kg.get j (by rw [idn_len]; exact hj)
      rw [idn_nth hj] at f2
      exact ⟨M, f1, fun w' hb => (hb.cell (p := ⟨M, j, none⟩) hl).trans f2⟩)
    have TT := Lib.hid (Below.refl w5.heap.size w5)
    clear hb ot X4 T4 Z4
    have hk50 : k ≤ 50 := by have := X5.out.few; have := HK.out; omega
    go_wp2
    go_loopw [6] (fun i wr => ∃ j : Nat, j ≤ k ∧ i = .int .i64 j ∧ Hid (Below w5.heap.size w5 wr)) (fun i _ => k - (intOf i).toNat)
    case atStart => exact ⟨0, by omega, rfl, TT⟩
    case round =>
      clear TT
      obtain ⟨j, hj, rfl, hB⟩ := hrel
      obtain ⟨wo, rfl⟩ : ∃ wo : World, wo = wr := ⟨_, rfl⟩
      by_cases hjk : j < k
      · have hj1 : (j : Int) < (k : Int) := by omega
        obtain ⟨M, rfl, hc⟩ := HC.out j hjk
        have c0 := hc _ hB.out
        have hne : ((j : Int) != (j : Int)) = false := by simp
        clear hc
        go_wp2
        go_roundw
        case rel => exact ⟨j + 1, by omega, by go_num, hB⟩
        case measure => simp [intOf]; omega
      · obtain rfl : k = j := by omega
        have hj1 : ¬ (k : Int) < (k : Int) := by omega
        have X6 := Lib.hid (X5.out.below hB.out)
        have T6 := Lib.hid (Below.on T5.out hB.out)
        have Z6 := Lib.hid (own_below Z5.out hB.out)
        have hkk : ((k : Int) == (k : Int)) = true := by simp
        go_wp2_with fail
        refine (ibck_any _ (bkL xs) _ (Ints.of_own Z6.out (by have := HL.out; unfold maxLen; omega)) Z6.out.capped).mono ?_
        rintro e w7 ⟨r, rfl, or, hb'⟩
        have X7 := Lib.hid (X6.out.below hb')
        have T7 := Lib.hid (Below.on T6.out hb')
        rw [HB.out.2.1] at or
        go_wp2_with fail
        refine (same_eq r _ xs _ (Ints.of_own or (by have := X7.out.few; unfold maxLen; omega)) X7.out.ints).mono ?_
        rintro e w8 ⟨rfl, hb''⟩
        have T8 := Lib.hid (Below.on T7.out hb'')
        go_wp2
        go_ret
        exact ⟨rfl, T8.out⟩
end Go.Proofs.YtipndddmjgjgpabDoor
