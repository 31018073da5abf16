/- spec.l4At: the value at a place of the polynomial through others. -/
import Derived.Test.YtljekapbcphdaabDoorOwnA
import Derived.Test.YtljekapbcphdaabDoorBTalk
namespace Go.Proofs.YtljekapbcphdaabDoor
open Go.RowKit

theorem smod_bl {w w1 : World} (n q : Int) (h : Hid (Below w.heap.size w w1)) (h1 : -9999 ≤ n) (h2 : n ≤ 9999) (q1 : 1 ≤ q) (q2 : q ≤ 100) : Calls Tryd.prog 96 #[.int .i64 n, .int .i64 q] w1 fun e w' => e = .returned (.int .i64 (n % q)) ∧ Hid (Below w.heap.size w w') :=
  (smod_any n q w1 h1 h2 q1 q2).mono fun _ _ ⟨he, hw⟩ => ⟨he, by rw [← hw]; exact h⟩
theorem spw_bl {w w1 : World} (p a n : Int) (h : Hid (Below w.heap.size w w1)) (p1 : 1 < p) (p2 : p ≤ 100) (a0 : 0 ≤ a) (a1 : a ≤ 100) (n0 : 0 ≤ n) (n1 : n ≤ 10000) : Calls Tryd.prog 95 #[.int .i64 p, .int .i64 a, .int .i64 n] w1 fun e w' => e = .returned (.int .i64 (pw p a n.toNat)) ∧ Hid (Below w.heap.size w w') :=
  (spw_any p a n w1 p1 p2 a0 a1 n0 n1).mono fun _ _ ⟨he, hw⟩ => ⟨he, by rw [← hw]; exact h⟩
theorem spw_bl2 {w w1 : World} (p a n v : Int) (hv : pw p a n.toNat = v) (h : Hid (Below w.heap.size w w1)) (p1 : 1 < p) (p2 : p ≤ 100) (a0 : 0 ≤ a) (a1 : a ≤ 100) (n0 : 0 ≤ n) (n1 : n ≤ 10000) : Calls Tryd.prog 95 #[.int .i64 p, .int .i64 a, .int .i64 n] w1 fun e w' => e = .returned (.int .i64 v) ∧ Hid (Below w.heap.size w w') := by
  rw [← hv]; exact spw_bl p a n h p1 p2 a0 a1 n0 n1

set_option maxRecDepth 20000 in
set_option maxHeartbeats 3200000 in
theorem sat_wide (g x : Int) (pv vv : Value) (ps vs : List Int) (w : World) (hp : Ints w pv ps) (hv : Ints w vv vs) (hl : vs.length = ps.length) (h5 : ps.length ≤ 5) (hps : ∀ k, k < ps.length → exB g (nth ps k) = true) (hvs : ∀ k, k < ps.length → exB g (nth vs k) = true) (g0 : 0 ≤ g) (g4 : g < 4) (x0 : 0 ≤ x) (x1 : x ≤ 22) (ha : Apart g ps) :
    Calls Tryd.prog 101 #[.int .i64 g, pv, vv, .int .i64 x] w fun e w' => e = .returned (.int .i64 (lag g ps vs x)) ∧ Below w.heap.size w w' := by
  obtain ⟨o1, o2⟩ := ord_bd g0 g4
  obtain ⟨pa, pc, rfl, k1⟩ := hp.opened
  obtain ⟨va, vc, rfl, k2⟩ := hv.opened
  obtain ⟨n, hn⟩ : ∃ n, ps.length = n := ⟨_, rfl⟩
  obtain ⟨q, hq⟩ : ∃ q, ord g = q := ⟨_, rfl⟩
  obtain ⟨LT, hLT⟩ : ∃ f : Nat → Int, ∀ i, lagR g ps vs x i = f i := ⟨_, fun _ => rfl⟩
  obtain ⟨LP, hLP⟩ : ∃ f : Nat → Nat → Int, ∀ i j, lagQ g ps x (nth vs i) i j = f i j := ⟨_, fun _ _ => rfl⟩
  obtain ⟨PW, hPW⟩ : ∃ f : Nat → Nat → Int, ∀ i j, pw q ((nth ps i - nth ps j) % q) (q - 2).toNat = f i j := ⟨_, fun _ _ => rfl⟩
  have HPW := Lib.hid hPW
  have HEX := Lib.hid (show ∀ k, k < n → (0 ≤ nth ps k ∧ nth ps k < q) ∧ 0 ≤ nth vs k ∧ nth vs k < q from fun k hk => by
    have a := exB_true.1 (hps k (by omega)); have b := exB_true.1 (hvs k (by omega))
    rw [← hq]; exact ⟨a.2, b.2⟩)
  have HLP := Lib.hid (show ∀ i j, i < n → 0 ≤ LP i j ∧ LP i j ≤ 22 from fun i j hi => by
    have := HEX.out i hi
    rw [← hLP]; exact lagQ_bd g0 g4 (by omega) (by omega) j)
  have HLT := Lib.hid (show ∀ i, 0 ≤ LT i ∧ LT i ≤ 22 from fun i => by
    have := lagR_bd g0 g4 (ps := ps) (vs := vs) (x := x) i
    rw [← hLT]; omega)
  have HPB := Lib.hid (show ∀ i j, 0 ≤ PW i j ∧ PW i j ≤ 22 from fun i j => by
    rw [← hPW]
    have h1 := pw_bound q ((nth ps i - nth ps j) % q) (by omega) (q - 2).toNat
    omega)
  have HSK := Lib.hid (show ∀ i, LP i (i + 1) = LP i i from fun i => by rw [← hLP, ← hLP]; exact lagQ_skip g ps x _ i)
  have HST := Lib.hid (show ∀ i j, j ≠ i → LP i (j + 1) = LP i j * (x - nth ps j) % q * PW i j % q from fun i j h => by rw [← hLP, ← hLP, ← hPW, ← hq]; exact lagQ_step h)
  have HSU := Lib.hid (show ∀ i, LT (i + 1) = (LT i + LP i n) % q from fun i => by rw [← hLT, ← hLT, ← hLP, ← hq, lagR_succ, hn])
  have HLAG := Lib.hid (show lag g ps vs x = LT n by unfold lag; rw [← lagR_is g0 g4 ha _ (Nat.le_refl _), hLT, hn])
  have HL0 := Lib.hid (show LT 0 = 0 by rw [← hLT]; rfl)
  have HP0 := Lib.hid (show ∀ i, LP i 0 = nth vs i from fun i => by rw [← hLP]; rfl)
  have HTM := Lib.hid (show ∀ i, i < n → (LT i + LP i n).tmod q = (LT i + LP i n) % q from fun i hi => Int.tmod_eq_emod_of_nonneg (by have := HLT.out i; have := HLP.out i n hi; omega))
  have HTQ := Lib.hid (show ∀ i j, (LP i j * (x - nth ps j) % q * PW i j).tmod q = LP i j * (x - nth ps j) % q * PW i j % q from fun i j => Int.tmod_eq_emod_of_nonneg (Int.mul_nonneg (Int.emod_nonneg _ (by omega)) (HPB.out i j).1))
  have HMB := Lib.hid (show ∀ i j, i < n → j < n → -9999 ≤ LP i j * (x - nth ps j) ∧ LP i j * (x - nth ps j) ≤ 9999 ∧ 0 ≤ LP i j * (x - nth ps j) % q ∧ LP i j * (x - nth ps j) % q ≤ 22 ∧ 0 ≤ LP i j * (x - nth ps j) % q * PW i j ∧ LP i j * (x - nth ps j) % q * PW i j ≤ 484 from fun i j hi hj => by
    obtain ⟨l0, l1⟩ := HLP.out i j hi
    obtain ⟨⟨p0, p1⟩, _⟩ := HEX.out j hj
    obtain ⟨w0, w1⟩ := HPB.out i j
    have m1 : LP i j * (x - nth ps j) ≤ LP i j * 22 := Int.mul_le_mul_of_nonneg_left (by omega) l0
    have m2 : LP i j * (-22) ≤ LP i j * (x - nth ps j) := Int.mul_le_mul_of_nonneg_left (by omega) l0
    have e0 := Int.emod_nonneg (LP i j * (x - nth ps j)) (show q ≠ 0 by omega)
    have e1 := Int.emod_lt_of_pos (LP i j * (x - nth ps j)) (show 0 < q by omega)
    exact ⟨by omega, by omega, e0, by omega, Int.mul_nonneg e0 w0, Int.le_trans (Int.mul_le_mul (show _ ≤ 22 by omega) (show _ ≤ 22 by omega) w0 (by omega)) (by decide)⟩)
  have HC1 := Lib.hid (show ∀ k, k < n → ∃ M, pa = some ⟨M, 0, none⟩ ∧ ∀ w', Below w.heap.size w w' → w'.cell? ⟨M, k, none⟩ = some (.int .i64 (nth ps k)) from fun k hk => by
    obtain ⟨M, e1, hl, e2⟩ := k1.get k (by rw [hn]; exact hk)
    exact ⟨M, e1, fun w' hb => (hb.cell (p := ⟨M, k, none⟩) hl).trans e2⟩)
  have HC2 := Lib.hid (show ∀ k, k < n → ∃ M, va = some ⟨M, 0, none⟩ ∧ ∀ w', Below w.heap.size w w' → w'.cell? ⟨M, k, none⟩ = some (.int .i64 (nth vs k)) from fun k hk => by
    obtain ⟨M, e1, hl, e2⟩ := k2.get k (by omega)
    exact ⟨M, e1, fun w' hb => (hb.cell (p := ⟨M, k, none⟩) hl).trans e2⟩)
  have HQQ := Lib.hid hq
  have hq0 : (q == 0) = false := by simp; omega
  have hq1 : 3 ≤ q := by omega
  have hq2 : q ≤ 23 := by omega
  have hq9 : ¬ q = 0 := by omega
  have hx1 : x ≤ 22 := by omega
  have hn5 : n ≤ 5 := by omega
  rw [HLAG.out]
  rw [hn]
  rw [hl, hn]
  clear hp hv k1 k2 hl h5 hps hvs ha hLT hLP hPW hn hq x1 o1 o2 g0 g4 HLAG
  go_enter Tryd.func101, Tryd.ntmps101
  go_wp2_with fail
  refine (sord_any g _).mono ?_
  rintro e w1 ⟨rfl, hb⟩
  rw [HQQ.out]
  have B1 := Lib.hid hb
  clear hb
  go_wp2
  go_loopw [10, 11] (fun s i wr => ∃ k : Nat, k ≤ n ∧ i = .int .i64 k ∧ s = .int .i64 (LT k) ∧ Hid (Below w.heap.size w wr)) (fun _ i _ => n - (intOf i).toNat)
  case atStart => exact ⟨0, by omega, rfl, by rw [HL0.out], B1⟩
  case round =>
    obtain ⟨k, hk, rfl, rfl, hB⟩ := hrel
    obtain ⟨wo, rfl⟩ : ∃ wo : World, wo = wr := ⟨_, rfl⟩
    by_cases hkn : k < n
    · have hk1 : (k : Int) < (n : Int) := by omega
      obtain ⟨M, rfl, hm⟩ := HC2.out k hkn
      have a0 := hm wo hB.out
      have HE := HP0.out k
      obtain ⟨b0, b1⟩ := HLT.out k
      obtain ⟨e0, e1⟩ := HLP.out k n hkn
      clear hm
      go_wp2
      clear a0
      go_loopw [12, 13] (fun p i wr => ∃ j : Nat, j ≤ n ∧ i = .int .i64 j ∧ p = .int .i64 (LP k j) ∧ Hid (Below w.heap.size w wr)) (fun _ i _ => n - (intOf i).toNat)
      case atStart => exact ⟨0, by omega, rfl, by rw [HE], hB⟩
      case round =>
        obtain ⟨j, hj, rfl, rfl, hT⟩ := hrel
        obtain ⟨wi, rfl⟩ : ∃ wi : World, wi = wr := ⟨_, rfl⟩
        clear HE
        by_cases hjn : j < n
        · have hj1 : (j : Int) < (n : Int) := by omega
          by_cases hjk : j = k
          · have hne : ((j : Int) != (k : Int)) = false := by simp; omega
            have HJK := Lib.hid hjk
            clear hjk
            go_wp2
            go_roundw
            case rel => exact ⟨j + 1, by omega, by go_num, by rw [HJK.out, HSK.out], hT⟩
            case measure => simp [intOf]; omega
          · have hne : ((j : Int) != (k : Int)) = true := by simp; omega
            obtain ⟨M1, rfl, hj2⟩ := HC1.out j hjn
            obtain ⟨M2, e2, hk2⟩ := HC1.out k hkn
            cases e2
            have HJ2 := Lib.hid hj2
            have HK2 := Lib.hid hk2
            obtain ⟨⟨p0, p1⟩, _⟩ := HEX.out j hjn
            obtain ⟨⟨q0, q1⟩, _⟩ := HEX.out k hkn
            obtain ⟨m0, m1, m2, m3, m4, m5⟩ := HMB.out k j hkn hjn
            obtain ⟨u0, u1⟩ := HLP.out k j hkn
            obtain ⟨v0, v1⟩ := HPB.out k j
            have hdm0 := Int.emod_nonneg (nth ps k - nth ps j) hq9
            have hdm1 := Int.emod_lt_of_pos (nth ps k - nth ps j) (show 0 < q by omega)
            have htq := HTQ.out k j
            have HD : Hid (Below w.heap.size w wi.drew) := Lib.hid hT.out.drew
            clear hj2 hk2
            go_wp2_with fail
            refine wp_region_class (C := fun w' => Hid (Below w.heap.size w w')) (by kernel_rfl) (by kernel_rfl) HD ?_
            repeat (first | go_big_quiet_skip | (go_big_quiet_want; go_big_quiet_op; first | go_big_quiet_on | (refine ⟨_, fun _ _ => rfl, ?_⟩; go_big_quiet_on)))
            go_big_quiet_want
            go_big_quiet_op
            refine ⟨.int .i64 (nth ps j), fun w' hw' => ?_, ?_⟩
            · have q9 := HJ2.out _ hw'.out
              simp [go_sem, q9]
            go_big_quiet_on
            repeat (first | go_big_quiet_skip | (go_big_quiet_want; go_big_quiet_op; first | go_big_quiet_on | (refine ⟨_, fun _ _ => rfl, ?_⟩; go_big_quiet_on)))
            go_big_quiet_want
            go_big_quiet_op
            go_big_quiet_call ((intro hw; exact smod_bl _ _ hw (by omega) (by omega) (by omega) (by omega)))
            repeat (first | go_big_quiet_skip | (go_big_quiet_want; go_big_quiet_op; first | go_big_quiet_on | (refine ⟨_, fun _ _ => rfl, ?_⟩; go_big_quiet_on)))
            go_big_quiet_want
            go_big_quiet_op
            refine ⟨.int .i64 (nth ps k), fun w' hw' => ?_, ?_⟩
            · have q9 := HK2.out _ hw'.out
              simp [go_sem, q9]
            go_big_quiet_on
            repeat (first | go_big_quiet_skip | (go_big_quiet_want; go_big_quiet_op; first | go_big_quiet_on | (refine ⟨_, fun _ _ => rfl, ?_⟩; go_big_quiet_on)))
            go_big_quiet_want
            go_big_quiet_op
            refine ⟨.int .i64 (nth ps j), fun w' hw' => ?_, ?_⟩
            · have q9 := HJ2.out _ hw'.out
              simp [go_sem, q9]
            go_big_quiet_on
            repeat (first | go_big_quiet_skip | (go_big_quiet_want; go_big_quiet_op; first | go_big_quiet_on | (refine ⟨_, fun _ _ => rfl, ?_⟩; go_big_quiet_on)))
            go_big_quiet_want
            go_big_quiet_op
            go_big_quiet_call ((intro hw; exact smod_bl _ _ hw (by omega) (by omega) (by omega) (by omega)))
            repeat (first | go_big_quiet_skip | (go_big_quiet_want; go_big_quiet_op; first | go_big_quiet_on | (refine ⟨_, fun _ _ => rfl, ?_⟩; go_big_quiet_on)))
            go_big_quiet_want
            go_big_quiet_op
            go_big_quiet_call ((intro hw; exact spw_bl2 _ _ _ _ (HPW.out k j) hw (by omega) (by omega) (by omega) (by omega) (by omega) (by omega)))
            repeat (first | go_big_quiet_skip | (go_big_quiet_want; go_big_quiet_op; first | go_big_quiet_on | (refine ⟨_, fun _ _ => rfl, ?_⟩; go_big_quiet_on)))
            refine wpQuiet_nil ?_
            intro w3 hw3
            go_wp2
            go_roundw
            case rel => exact ⟨j + 1, by omega, by go_num, by rw [HST.out _ _ hjk], hw3⟩
            case measure => simp [intOf]; omega
        · obtain rfl : j = n := by omega
          have hj1 : ¬ (j : Int) < (j : Int) := by omega
          have hre := HTM.out k hkn
          go_wp2
          go_roundw
          case rel => exact ⟨k + 1, by omega, by go_num, by rw [HSU.out], hT⟩
          case measure => simp [intOf]; omega
    · obtain rfl : k = n := by omega
      have hk1 : ¬ (k : Int) < (k : Int) := by omega
      go_wp2
      go_ret
      exact ⟨rfl, hB.out⟩
theorem sat_any (g x : Int) (pv vv : Value) (ps vs : List Int) (w : World) (hp : Ints w pv ps) (hv : Ints w vv vs) (hl : vs.length = ps.length) (h5 : ps.length ≤ 5) (hps : ∀ k, k < ps.length → exB g (nth ps k) = true) (hvs : ∀ k, k < ps.length → exB g (nth vs k) = true) (hx : exB g x = true) (ha : Apart g ps) :
    Calls Tryd.prog 101 #[.int .i64 g, pv, vv, .int .i64 x] w fun e w' => e = .returned (.int .i64 (lag g ps vs x)) ∧ Below w.heap.size w w' := by
  obtain ⟨⟨g0, g4⟩, x0, x1⟩ := exB_true.1 hx
  have o := ord_bd g0 g4
  exact sat_wide g x pv vv ps vs w hp hv hl h5 hps hvs g0 g4 x0 (by omega) ha
end Go.Proofs.YtljekapbcphdaabDoor
