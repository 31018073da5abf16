/- impl.manyOk, KeysOk; spec.KeysOk; impl.SomeMany, spec.SomeMany. -/
import Derived.Test.YtljekapbcphdaabDoorBCl
import Derived.Test.YtljekapbcphdaabDoorBPurV
namespace Go.Proofs.YtljekapbcphdaabDoor
open Go.RowKit

theorem imnyok_any (g need : Int) (n : Nat) (w : World) (G : Gr w) : Calls Tryd.prog 102 #[.int .i64 g, .int .i64 n, .int .i64 need] w fun e w' => e = .returned (.bool (mnyB g n need)) ∧ Below w.heap.size w w' := by
  obtain ⟨c0, c1, c2, c3, c4, c5, c6, c7, c8, c9, c10, c11⟩ := G
  by_cases hg : 0 ≤ g ∧ g < 4
  · have hb : gok g = true := gok_true.2 hg
    have hdn : decide ((n : Int) ≥ 1) = decide (1 ≤ n) := by by_cases h : 1 ≤ n <;> simp [h] <;> omega
    by_cases a1 : 1 ≤ n
    case neg =>
      have HX := Lib.hid (show mnyB g n need = false from mnyB_false fun h => a1 h.n1)
      go_enter Tryd.func102, Tryd.ntmps102
      go_wp2_with (go_at_call 91; refine (groupOk_any _ _).mono ?_; rintro e w1 ⟨rfl, rfl⟩)
      go_ret
      exact ⟨by rw [HX.out]; rfl, Below.refl _ _⟩
    by_cases a2 : n ≤ 4
    case neg =>
      have HX := Lib.hid (show mnyB g n need = false from mnyB_false fun h => a2 h.n4)
      go_enter Tryd.func102, Tryd.ntmps102
      go_wp2_with (go_at_call 91; refine (groupOk_any _ _).mono ?_; rintro e w1 ⟨rfl, rfl⟩)
      go_ret
      exact ⟨by rw [HX.out]; rfl, Below.refl _ _⟩
    obtain ⟨h0, h4⟩ := hg
    by_cases a3 : (n : Int) < ord g
    case neg =>
      have HX := Lib.hid (show mnyB g n need = false from mnyB_false fun h => a3 h.lt)
      rcases g_cases h0 h4 with rfl | rfl | rfl | rfl <;> clear h0 h4
      all_goals simp [ord] at a3
      all_goals try omega
      all_goals
        go_enter Tryd.func102, Tryd.ntmps102
        go_wp2_with (go_at_call 91; refine (groupOk_any _ _).mono ?_; rintro e w1 ⟨rfl, rfl⟩)
        go_ret
        exact ⟨by rw [HX.out]; rfl, Below.refl _ _⟩
    by_cases a4 : 1 ≤ need
    case neg =>
      have HX := Lib.hid (show mnyB g n need = false from mnyB_false fun h => a4 h.d1)
      rcases g_cases h0 h4 with rfl | rfl | rfl | rfl <;> clear h0 h4
      all_goals
        simp [ord] at a3
        go_enter Tryd.func102, Tryd.ntmps102
        go_wp2_with (go_at_call 91; refine (groupOk_any _ _).mono ?_; rintro e w1 ⟨rfl, rfl⟩)
        go_ret
        exact ⟨by rw [HX.out]; rfl, Below.refl _ _⟩
    by_cases a5 : need ≤ n
    · have HX := Lib.hid (show mnyB g n need = true from mnyB_true.2 ⟨h0, h4, a1, a2, a3, a4, a5⟩)
      have hd5 := decide_eq_true a5
      rcases g_cases h0 h4 with rfl | rfl | rfl | rfl <;> clear h0 h4
      all_goals
        simp [ord] at a3
        go_enter Tryd.func102, Tryd.ntmps102
        go_wp2_with (go_at_call 91; refine (groupOk_any _ _).mono ?_; rintro e w1 ⟨rfl, rfl⟩)
        go_ret
        exact ⟨by rw [HX.out]; rfl, Below.refl _ _⟩
    · have HX := Lib.hid (show mnyB g n need = false from mnyB_false fun h => a5 h.dn)
      have hd5 := decide_eq_false a5
      rcases g_cases h0 h4 with rfl | rfl | rfl | rfl <;> clear h0 h4
      all_goals
        simp [ord] at a3
        go_enter Tryd.func102, Tryd.ntmps102
        go_wp2_with (go_at_call 91; refine (groupOk_any _ _).mono ?_; rintro e w1 ⟨rfl, rfl⟩)
        go_ret
        exact ⟨by rw [HX.out]; rfl, Below.refl _ _⟩
  · have hb : gok g = false := gok_false.2 hg
    have HX := Lib.hid (show mnyB g n need = false from mnyB_false fun h => hg ⟨h.g0, h.g4⟩)
    clear hg
    go_enter Tryd.func102, Tryd.ntmps102
    go_wp2_with (go_at_call 91; refine (groupOk_any _ _).mono ?_; rintro e w1 ⟨rfl, rfl⟩)
    go_ret
    exact ⟨by rw [HX.out]; rfl, Below.refl _ _⟩

theorem ikeys_any (g need : Int) (v : Value) (xs : List Int) (w : World) (G : Gr w) (h : Ints w v xs) : Calls Tryd.prog 84 #[.int .i64 g, v, .int .i64 need] w fun e w' => e = .returned (.bool (kysB g xs need)) ∧ Below w.heap.size w w' := by
  have HG := Lib.hid G
  have HH := Lib.hid h
  obtain ⟨a, c, rfl, k1⟩ := h.opened
  have hm := k1.max
  clear h k1 G
  cases hk : mnyB g xs.length need
  · have HX := Lib.hid (show kysB g xs need = false by unfold kysB; rw [hk]; rfl)
    go_enter Tryd.func84, Tryd.ntmps84
    go_wp2_with fail
    refine (imnyok_any g need xs.length w HG.out).mono ?_
    rintro e w1 ⟨rfl, hb⟩
    rw [hk]
    have B1 := Lib.hid hb
    clear hb
    go_wp2
    go_ret
    exact ⟨by rw [HX.out]; rfl, B1.out⟩
  · have HX := Lib.hid (show kysB g xs need = allEl g xs by unfold kysB; rw [hk]; rfl)
    go_enter Tryd.func84, Tryd.ntmps84
    go_wp2_with fail
    refine (imnyok_any g need xs.length w HG.out).mono ?_
    rintro e w1 ⟨rfl, hb⟩
    rw [hk]
    have B1 := Lib.hid hb
    clear hb
    go_wp2_with fail
    refine (ielsok_any g _ xs w1 (HG.out.on B1.out) (HH.out.below B1.out)).mono ?_
    rintro e w2 ⟨rfl, hb⟩
    have B2 := Lib.hid (Below.on B1.out hb)
    clear hb
    go_wp2
    go_ret
    exact ⟨by rw [HX.out]; rfl, B2.out⟩

theorem skeys_any (g need : Int) (v : Value) (xs : List Int) (w : World) (h : Ints w v xs) : Calls Tryd.prog 81 #[.int .i64 g, v, .int .i64 need] w fun e w' => e = .returned (.bool (kysB g xs need)) ∧ Below w.heap.size w w' := by
  obtain ⟨a, c, rfl, k1⟩ := h.opened
  obtain ⟨n, hn⟩ : ∃ n, xs.length = n := ⟨_, rfl⟩
  have hm := k1.max
  have HC := Lib.hid (show ∀ w', Below w.heap.size w w' → ∀ k, k < n → ∃ X, a = some ⟨X, 0, none⟩ ∧ w'.cell? ⟨X, k, none⟩ = some (.int .i64 (nth xs k)) from fun w' hb k hk => by
    obtain ⟨X, f1, _, f2⟩ := (k1.on hb).get k (by rw [hn]; exact hk)
    exact ⟨X, f1, f2⟩)
  have HE := Lib.hid (show ∀ k, k < n → elB g (nth xs k) = false → kysB g xs need = false from fun k hk h => by
    cases hb : kysB g xs need
    · rfl
    · have := allEl_at (kysB_true.1 hb).el (show k < xs.length by rw [hn]; exact hk)
      rw [h] at this; cases this)
  have HA := Lib.hid (show (∀ k, k < n → elB g (nth xs k) = true) → kysB g xs need = mnyB g n need from fun h => by
    unfold kysB; rw [hn, allEl_yes (fun j hj => h j (by rw [← hn]; exact hj)), Bool.and_true])
  have HM := Lib.hid (show mnyB g n need = ((decide (0 ≤ g) && decide (g ≤ 3)) && ((decide (1 ≤ (n : Int)) && decide ((n : Int) ≤ min 4 (ord g - 1))) && (decide (1 ≤ need) && decide (need ≤ n)))) by
    rw [Bool.eq_iff_iff, mnyB_true]
    simp only [Bool.and_eq_true, decide_eq_true_eq]
    constructor
    · intro h; have := h.g0; have := h.g4; have := h.n1; have := h.n4; have := h.lt; have := h.d1; have := h.dn; omega
    · rintro ⟨⟨a, b⟩, ⟨c, d⟩, e, f⟩; exact ⟨a, by omega, by omega, by omega, by omega, e, f⟩)
  rw [hn] at hm ⊢
  unfold maxLen at hm
  clear h k1 hn
  go_enter Tryd.func81, Tryd.ntmps81
  go_wp2
  go_loopw [7] (fun i wr => ∃ k : Nat, k ≤ n ∧ i = .int .i64 k ∧ Hid (∀ j, j < k → elB g (nth xs j) = true) ∧ Hid (Below w.heap.size w wr)) (fun i _ => n - (intOf i).toNat)
  case atStart => exact ⟨0, by omega, rfl, Lib.hid fun j hj => by omega, Lib.hid (Below.refl _ _)⟩
  case round =>
    obtain ⟨k, hk, rfl, hT, hB⟩ := hrel
    obtain ⟨wo, rfl⟩ : ∃ wo : World, wo = wr := ⟨_, rfl⟩
    by_cases hkn : k < n
    · have hk1 : (k : Int) < (n : Int) := by omega
      obtain ⟨X, rfl, c0⟩ := HC.out _ hB.out k hkn
      cases he : elB g (nth xs k)
      · have HX := Lib.hid (HE.out k hkn he)
        go_wp2_with fail
        refine (sel_any g (nth xs k) _).mono ?_
        rintro e w1 ⟨rfl, hb⟩
        rw [he]
        have B1 := Lib.hid (Below.on hB.out hb)
        clear hb c0
        go_wp2
        go_ret
        exact ⟨by rw [HX.out]; rfl, B1.out⟩
      · go_wp2_with fail
        refine (sel_any g (nth xs k) _).mono ?_
        rintro e w1 ⟨rfl, hb⟩
        rw [he]
        have B1 := Lib.hid (Below.on hB.out hb)
        have HT := Lib.hid he
        clear hb c0
        go_wp2
        go_roundw
        case rel => exact ⟨k + 1, by omega, by go_num, Lib.hid fun j hj => by
          by_cases e : j < k
          · exact hT.out j e
          · obtain rfl : j = k := by omega
            exact HT.out, B1⟩
        case measure => simp [intOf]; omega
    · obtain rfl : n = k := by omega
      have hk1 : ¬ (n : Int) < (n : Int) := by omega
      have HX := Lib.hid ((HA.out hT.out).trans HM.out)
      clear hT
      by_cases hg : 0 ≤ g ∧ g ≤ 3
      case neg =>
        have hgb : (decide (0 ≤ g) && decide (g ≤ 3)) = false := by simp; omega
        go_wp2_with fail
        refine (l1In_any _ _ _ _).mono ?_
        rintro e w1 ⟨rfl, rfl⟩
        rw [hgb]
        go_wp2
        go_ret
        exact ⟨by rw [HX.out, hgb]; rfl, hB.out⟩
      have hgb : (decide (0 ≤ g) && decide (g ≤ 3)) = true := by simp; omega
      obtain ⟨o1, o2⟩ := ord_bd hg.1 (by omega : g < 4)
      by_cases hmn : (4 : Int) ≤ ord g - 1
      · have HE := Lib.hid (show min 4 (ord g - 1) = 4 from Int.min_eq_left hmn)
        cases hn1 : (decide (1 ≤ (n : Int)) && decide ((n : Int) ≤ 4))
        · go_wp2_with fail
          refine (l1In_any _ _ _ _).mono ?_
          rintro e w1 ⟨rfl, rfl⟩
          rw [hgb]
          go_wp2_with fail
          refine (sord_any g _).mono ?_
          rintro e w2 ⟨rfl, hb⟩
          have B1 := Lib.hid (Below.on hB.out hb)
          clear hb
          go_wp2_with fail
          refine (l1In_any _ _ _ _).mono ?_
          rintro e w3 ⟨rfl, rfl⟩
          rw [hn1]
          go_wp2
          go_ret
          exact ⟨by rw [HX.out, hgb, HE.out, hn1]; rfl, B1.out⟩
        · go_wp2_with fail
          refine (l1In_any _ _ _ _).mono ?_
          rintro e w1 ⟨rfl, rfl⟩
          rw [hgb]
          go_wp2_with fail
          refine (sord_any g _).mono ?_
          rintro e w2 ⟨rfl, hb⟩
          have B1 := Lib.hid (Below.on hB.out hb)
          clear hb
          go_wp2_with fail
          refine (l1In_any _ _ _ _).mono ?_
          rintro e w3 ⟨rfl, rfl⟩
          rw [hn1]
          go_wp2_with fail
          refine (l1In_any _ _ _ _).mono ?_
          rintro e w3 ⟨rfl, rfl⟩
          go_wp2
          go_ret
          exact ⟨by rw [HX.out, hgb, HE.out, hn1]; rfl, B1.out⟩
      · have HE := Lib.hid (show min 4 (ord g - 1) = (ord g - 1) from Int.min_eq_right (by omega))
        cases hn1 : (decide (1 ≤ (n : Int)) && decide ((n : Int) ≤ (ord g - 1)))
        · go_wp2_with fail
          refine (l1In_any _ _ _ _).mono ?_
          rintro e w1 ⟨rfl, rfl⟩
          rw [hgb]
          go_wp2_with fail
          refine (sord_any g _).mono ?_
          rintro e w2 ⟨rfl, hb⟩
          have B1 := Lib.hid (Below.on hB.out hb)
          clear hb
          go_wp2_with fail
          refine (l1In_any _ _ _ _).mono ?_
          rintro e w3 ⟨rfl, rfl⟩
          rw [hn1]
          go_wp2
          go_ret
          exact ⟨by rw [HX.out, hgb, HE.out, hn1]; rfl, B1.out⟩
        · go_wp2_with fail
          refine (l1In_any _ _ _ _).mono ?_
          rintro e w1 ⟨rfl, rfl⟩
          rw [hgb]
          go_wp2_with fail
          refine (sord_any g _).mono ?_
          rintro e w2 ⟨rfl, hb⟩
          have B1 := Lib.hid (Below.on hB.out hb)
          clear hb
          go_wp2_with fail
          refine (l1In_any _ _ _ _).mono ?_
          rintro e w3 ⟨rfl, rfl⟩
          rw [hn1]
          go_wp2_with fail
          refine (l1In_any _ _ _ _).mono ?_
          rintro e w3 ⟨rfl, rfl⟩
          go_wp2
          go_ret
          exact ⟨by rw [HX.out, hgb, HE.out, hn1]; rfl, B1.out⟩
end Go.Proofs.YtljekapbcphdaabDoor
