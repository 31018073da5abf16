/- impl.SomeMany, spec.SomeMany. -/
import Derived.Test.YtljekapbcphdaabDoorKysI
namespace Go.Proofs.YtljekapbcphdaabDoor
open Go.RowKit

def smyM (g : Int) (keys : List Int) (need ask : Int) : Int := if kysB g keys need && exB g ask then ord g ^ (2 * (keys.length : Int) - need).toNat else -1
theorem smyM_no1 {g : Int} {keys : List Int} {need : Int} (ask : Int) (h : kysB g keys need = false) : smyM g keys need ask = -1 := by unfold smyM; rw [h]; rfl
theorem smyM_no2 {g : Int} {keys : List Int} {need ask : Int} (h : exB g ask = false) : smyM g keys need ask = -1 := by unfold smyM; rw [h, Bool.and_false]; rfl
theorem smyM_yes {g : Int} {keys : List Int} {need ask : Int} (h : kysB g keys need = true) (hx : exB g ask = true) : smyM g keys need ask = ord g ^ (2 * (keys.length : Int) - need).toNat := by unfold smyM; rw [h, hx]; rfl
theorem pow_small {q : Int} (h0 : 3 ≤ q) (h1 : q ≤ 23) : ∀ j, 0 ≤ q ^ j ∧ q ^ j ≤ 23 ^ j
  | 0 => by simp
  | j + 1 => by
    obtain ⟨a, b⟩ := pow_small h0 h1 j
    rw [Int.pow_succ, Int.pow_succ]
    exact ⟨Int.mul_nonneg a (by omega), Int.mul_le_mul b h1 (by omega) (Int.pow_nonneg (by omega))⟩
theorem pow_fit {q : Int} (h0 : 3 ≤ q) (h1 : q ≤ 23) {j m : Nat} (hj : j < m) (hm : m ≤ 7) : 0 ≤ q ^ j * q ∧ q ^ j * q ≤ 3404825447 := by
  obtain ⟨a, b⟩ := pow_small h0 h1 (j + 1)
  rw [Int.pow_succ] at a b
  refine ⟨a, Int.le_trans b ?_⟩
  have : (23 : Int) ^ (j + 1) ≤ 23 ^ 7 := by
    rcases (show j = 0 ∨ j = 1 ∨ j = 2 ∨ j = 3 ∨ j = 4 ∨ j = 5 ∨ j = 6 by omega) with rfl | rfl | rfl | rfl | rfl | rfl | rfl <;> decide
  exact Int.le_trans this (by decide)

set_option maxHeartbeats 1600000 in
theorem ismy_any (g need ask : Int) (v : Value) (keys : List Int) (w : World) (G : Gr w) (h : Ints w v keys) : Calls Tryd.prog 45 #[.int .i64 g, v, .int .i64 need, .int .i64 ask] w fun e w' => e = .returned (.int .i64 (smyM g keys need ask)) ∧ Below w.heap.size w w' := by
  have HH := Lib.hid h
  have HG := Lib.hid G
  obtain ⟨a, c, rfl, _⟩ := h.opened
  have BB := Lib.hid (Below.refl w.heap.size w)
  clear h G
  cases hk : kysB g keys need
  · have HX := Lib.hid (smyM_no1 ask hk)
    go_enter Tryd.func45, Tryd.ntmps45
    go_wp2_with fail
    refine (ikeys_any g need _ keys _ (HG.out.on BB.out) (HH.out.below BB.out)).mono ?_
    rintro e w1 ⟨rfl, hb⟩
    rw [hk]
    have B1 := Lib.hid hb
    clear hb
    go_wp2
    go_ret
    exact ⟨by rw [HX.out]; rfl, B1.out⟩
  cases hx : exB g ask
  · have HX := Lib.hid (smyM_no2 (keys := keys) (need := need) hx)
    go_enter Tryd.func45, Tryd.ntmps45
    go_wp2_with fail
    refine (ikeys_any g need _ keys _ (HG.out.on BB.out) (HH.out.below BB.out)).mono ?_
    rintro e w1 ⟨rfl, hb⟩
    rw [hk]
    have B1 := Lib.hid hb
    clear hb
    go_wp2_with fail
    refine (iex_l g ask _ (HG.out.on B1.out)).mono ?_
    rintro e w2 ⟨rfl, hb⟩
    rw [hx]
    have B2 := Lib.hid (Below.on B1.out hb)
    clear hb
    go_wp2
    go_ret
    exact ⟨by rw [HX.out]; rfl, B2.out⟩
  have hm := (kysB_true.1 hk).m
  have g0 := hm.g0
  have g4 := hm.g4
  have n4 := hm.n4
  have d1 := hm.d1
  have dn := hm.dn
  obtain ⟨o1, o2⟩ := ord_bd g0 g4
  obtain ⟨n, hn⟩ : ∃ n, keys.length = n := ⟨_, rfl⟩
  obtain ⟨m, hmm⟩ : ∃ m : Nat, 2 * (n : Int) - need = m := ⟨(2 * (n : Int) - need).toNat, by omega⟩
  have hm7 : m ≤ 7 := by omega
  have HX := Lib.hid (show smyM g keys need ask = ord g ^ m by rw [smyM_yes hk hx, hn, hmm]; rfl)
  have HM := Lib.hid hmm
  have HN := Lib.hid hn
  obtain ⟨q, hq⟩ : ∃ q, ord g = q := ⟨_, rfl⟩
  rw [hq] at o1 o2 HX
  have HQ := Lib.hid hq
  have HPF := Lib.hid (show ∀ j, j < m → 0 ≤ q ^ j * q ∧ q ^ j * q ≤ 3404825447 from fun j hj => pow_fit o1 o2 hj hm7)
  have HP0 := Lib.hid (show ∀ j, 0 ≤ q ^ j from fun j => (pow_small o1 o2 j).1)
  have HPS := Lib.hid (show ∀ j, q ^ (j + 1) = q ^ j * q from fun j => Int.pow_succ _ _)
  rw [hn] at n4 dn ⊢
  clear hm hn hq hmm
  go_enter Tryd.func45, Tryd.ntmps45
  go_wp2_with fail
  refine (ikeys_any g need (.slice a n c) keys _ HG.out (by have := HH.out; rwa [HN.out] at this)).mono ?_
  rintro e w1 ⟨rfl, hb⟩
  rw [hk]
  have B1 := Lib.hid hb
  clear hb
  go_wp2_with fail
  refine (iex_l g ask _ (HG.out.on B1.out)).mono ?_
  rintro e w2 ⟨rfl, hb⟩
  rw [hx]
  have B2 := Lib.hid (Below.on B1.out hb)
  clear hb
  have s1 : 0 ≤ 2 * (n : Int) - need := by have := HM.out; omega
  have G2 := Lib.hid (HG.out.on B2.out)
  go_wp2
  go_loop [9, 26] (fun p i => ∃ j : Nat, j ≤ m ∧ i = .int .i64 j ∧ p = .int .i64 (q ^ j)) (fun _ i => m - (intOf i).toNat)
  case atStart => exact ⟨0, by omega, rfl, by simp⟩
  case round =>
    obtain ⟨j, hj, rfl, rfl⟩ := hrel
    by_cases hjm : j < m
    · have hj1 : (j : Int) < 2 * (n : Int) - need := by have := HM.out; omega
      obtain ⟨e0, e1⟩ := HPF.out j hjm
      have e2 := HP0.out j
      have hps := HPS.out j
      obtain ⟨P, hP⟩ : ∃ P, q ^ j = P := ⟨_, rfl⟩
      obtain ⟨P2, hP2⟩ : ∃ P, q ^ (j + 1) = P := ⟨_, rfl⟩
      rw [hP] at e0 e1 e2 hps ⊢
      rw [hP2] at hps
      have HP2 := Lib.hid hP2
      have hps2 := Lib.hid hps
      clear hP hP2 hps
      obtain ⟨c0, c1, c2, c3, c4, c5, c6, c7, c8, c9, c10, c11⟩ := G2.out
      have hqq := HQ.out
      rcases g_cases g0 g4 with rfl | rfl | rfl | rfl
      all_goals
        simp [ord] at hqq
        subst hqq
        go_wp2
        go_round
        case rel => exact ⟨j + 1, by omega, by go_num, by rw [HP2.out, hps2.out]⟩
        case measure => simp [intOf]; omega
    · obtain rfl : j = m := by omega
      have hj1 : ¬ (j : Int) < 2 * (n : Int) - need := by have := HM.out; omega
      go_wp2
      go_ret
      exact ⟨by rw [HX.out]; rfl, B2.out⟩

end Go.Proofs.YtljekapbcphdaabDoor
