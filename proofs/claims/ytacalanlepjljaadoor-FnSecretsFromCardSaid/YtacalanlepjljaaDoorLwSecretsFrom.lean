/- The law FnSecretsFrom, walked. -/
import Derived.Test.YtacalanlepjljaaDoorDrawSc
import Derived.Test.YtacalanlepjljaaDoorScfI
import Derived.Test.YtacalanlepjljaaDoorScfS
import Derived.Test.YtacalanlepjljaaDoorPolY
import Derived.Test.YtacalanlepjljaaDoorLawR
import Derived.Test.YtacalanlepjljaaDoorLawsA
import Derived.Deep.Cut
namespace Go.Proofs.YtacalanlepjljaaDoor
open Go.RowKit

set_option maxRecDepth 20000 in
set_option maxHeartbeats 6400000 in
theorem lSecretsFrom_walk (s : Value) (w : World) (h : CodeIn w s) (G : Gr w) : Calls Tryd.prog 8 #[s] w fun e w' => e = .returned (.bool true) ∧ Below w.heap.size w w' := by
  obtain ⟨a0, len0, cap0, rfl⟩ := h.slice
  have H := Lib.hid h; clear h
  have G0 := Lib.hid G; clear G
  by_cases hl : 1048576 < len0
  · go_enter Tryd.func8, Tryd.ntmps8
    go_wp2
    go_ret
    exact ⟨rfl, Below.refl _ _⟩
  go_enter Tryd.func8, Tryd.ntmps8
  go_wp2_with fail
  refine (drawSecretsFrom_any _ _ H.out).mono ?_
  rintro e w1 ⟨g, kv, keys, need, ⟨sv, q, xv, tv, ss, xs, ts⟩, ⟨uv, q2, yv, vv, ss2, xs2, ts2⟩, rfl, hd, hlen, ⟨a1, a2, a3⟩, ⟨b1, b2, b3⟩, hI, ⟨hA1, hA2, hA3⟩, ⟨hB1, hB2, hB3⟩, hb⟩
  dsimp only at a1 a2 a3 b1 b2 b3 hA1 hA2 hA3 hB1 hB2 hB3 ⊢
  obtain ⟨ka, kc, rfl, kg⟩ := hI.opened
  obtain ⟨sa, sc, rfl, _⟩ := hA1.opened
  obtain ⟨xa, xc, rfl, _⟩ := hA2.opened
  obtain ⟨ta, tc, rfl, _⟩ := hA3.opened
  obtain ⟨ua, uc, rfl, _⟩ := hB1.opened
  obtain ⟨ya, yc, rfl, _⟩ := hB2.opened
  obtain ⟨va, vc, rfl, _⟩ := hB3.opened
  obtain ⟨w2, hw2⟩ : ∃ z, z = ((w1.alloc (.cells #[.slice sa ss.length sc, .int .i64 q, .slice xa xs.length xc, .slice ta ts.length tc] 24)).alloc (.cells #[.slice ua ss2.length uc, .int .i64 q2, .slice ya xs2.length yc, .slice va ts2.length vc] 24)) := ⟨_, rfl⟩
  have FB := Lib.hid (show ∀ w', Below w2.heap.size w2 w' → (Gr w' ∧ Ints w' (.slice ka keys.length kc) keys ∧ (Ints w' (.slice sa ss.length sc) ss ∧ Ints w' (.slice xa xs.length xc) xs ∧ Ints w' (.slice ta ts.length tc) ts) ∧ (Ints w' (.slice ua ss2.length uc) ss2 ∧ Ints w' (.slice ya xs2.length yc) xs2 ∧ Ints w' (.slice va ts2.length vc) ts2)) ∧ (Box w' w1.heap.size [.slice sa ss.length sc, .int .i64 q, .slice xa xs.length xc, .slice ta ts.length tc] ∧ Box w' (w1.heap.size + 1) [.slice ua ss2.length uc, .int .i64 q2, .slice ya xs2.length yc, .slice va ts2.length vc]) ∧ Below w.heap.size w w' from fun w' hb' => by
    rw [hw2] at hb'
    obtain ⟨p, r, h3⟩ := boxes2 (P := [.slice sa ss.length sc, .int .i64 q, .slice xa xs.length xc, .slice ta ts.length tc]) (R := [.slice ua ss2.length uc, .int .i64 q2, .slice ya xs2.length yc, .slice va ts2.length vc]) hb'
    exact ⟨⟨G0.out.on (Below.on hb h3), hI.below h3, ⟨hA1.below h3, hA2.below h3, hA3.below h3⟩, hB1.below h3, hB2.below h3, hB3.below h3⟩, ⟨p, r⟩, Below.on hb h3⟩)
  have T2 := Lib.hid (Below.refl w2.heap.size w2)
  obtain ⟨n, hn⟩ : ∃ n, keys.length = n := ⟨_, rfl⟩
  have HN := Lib.hid hn
  have HCK := Lib.hid (show ∀ k, k < n → ∃ X, ka = some ⟨X, 0, none⟩ ∧ ∀ w', Below w2.heap.size w2 w' → w'.cell? ⟨X, k, none⟩ = some (.int .i64 (nth keys k)) from fun k hk => by
    obtain ⟨M, e1, hl, e2⟩ := kg.get k (by omega)
    refine ⟨M, e1, fun w' hb' => ?_⟩
    rw [hw2] at hb'
    obtain ⟨_, _, h3⟩ := boxes2 (P := [.slice sa ss.length sc, .int .i64 q, .slice xa xs.length xc, .slice ta ts.length tc]) (R := [.slice ua ss2.length uc, .int .i64 q2, .slice ya xs2.length yc, .slice va ts2.length vc]) hb'
    exact (h3.cell (p := ⟨M, k, none⟩) hl).trans e2)
  rw [hn] at FB hlen ⊢
  clear hI hA1 hA2 hA3 hB1 hB2 hB3 hb kg hn
  obtain ⟨b, hbb⟩ : ∃ b, scfB g keys need ss q xs ts ss2 q2 xs2 ts2 = b := ⟨_, rfl⟩
  obtain ⟨XL, hXL⟩ : ∃ l, scfL g keys need ss q xs ts ss2 q2 xs2 ts2 = l := ⟨_, rfl⟩
  have HBB := Lib.hid hbb
  have HXL := Lib.hid hXL
  have hX4 : XL.length ≤ 4 := by rw [← hXL]; exact scfL_len _ _ _ _ _ _ _ _ _ _ _
  have HNO := Lib.hid (show b = false → XL = [] from fun e => by rw [← hXL]; exact scfL_no (hbb.trans e))
  have HYES := Lib.hid (show b = true → XL.length = n ∧ (∀ k, k < n → ¬ nth XL k < 0 → keyOf g (nth XL k) = nth keys k) ∧ need ≤ (toldN XL n : Nat) from fun e => by
    have hs := scf_told (hbb.trans e)
    rw [← hXL, scfL_yes (hbb.trans e), ← HN.out]
    exact ⟨scfTo_len _ _ _ _ _ _ _ _ _, hs⟩)
  have hbn : (b != b) = false := by simp
  clear hbb hXL
  have HW2 := Lib.hid hw2
  have q0 := (FB.out _ T2.out).2.1.1.cell 0; have q1 := (FB.out _ T2.out).2.1.1.cell 1; have q2_ := (FB.out _ T2.out).2.1.1.cell 2; have q3 := (FB.out _ T2.out).2.1.1.cell 3
  have p0 := (FB.out _ T2.out).2.1.2.cell 0; have p1 := (FB.out _ T2.out).2.1.2.cell 1; have p2 := (FB.out _ T2.out).2.1.2.cell 2; have p3 := (FB.out _ T2.out).2.1.2.cell 3
  simp at q0 q1 q2_ q3 p0 p1 p2 p3
  rw [hw2] at q0 q1 q2_ q3 p0 p1 p2 p3
  clear hw2
  go_wp2_with fail
  rw [← HW2.out]
  refine (iscf_any g need _ keys _ q _ _ _ q2 _ _ ss xs ts ss2 xs2 ts2 _ (FB.out _ T2.out).1.1 (FB.out _ T2.out).1.2.1 (FB.out _ T2.out).1.2.2.1.1 (FB.out _ T2.out).1.2.2.1.2.1 (FB.out _ T2.out).1.2.2.1.2.2 (FB.out _ T2.out).1.2.2.2.1 (FB.out _ T2.out).1.2.2.2.2.1 (FB.out _ T2.out).1.2.2.2.2.2).mono ?_
  rintro e w3 ⟨l0, rfl, ho, hb⟩
  rw [HXL.out] at ho
  rw [HBB.out]
  have T3 := Lib.hid (Below.on T2.out hb)
  have O3 := Lib.hid ho
  clear ho hb q0 q1 q2_ q3 p0 p1 p2 p3
  have q0 := (FB.out _ T3.out).2.1.1.cell 0; have q1 := (FB.out _ T3.out).2.1.1.cell 1; have q2_ := (FB.out _ T3.out).2.1.1.cell 2; have q3 := (FB.out _ T3.out).2.1.1.cell 3
  have p0 := (FB.out _ T3.out).2.1.2.cell 0; have p1 := (FB.out _ T3.out).2.1.2.cell 1; have p2 := (FB.out _ T3.out).2.1.2.cell 2; have p3 := (FB.out _ T3.out).2.1.2.cell 3
  simp at q0 q1 q2_ q3 p0 p1 p2 p3
  go_wp2_with fail
  refine (sscf_any g need _ keys _ q _ _ _ q2 _ _ ss xs ts ss2 xs2 ts2 _ (FB.out _ T3.out).1.2.1 (FB.out _ T3.out).1.2.2.1.1 (FB.out _ T3.out).1.2.2.1.2.1 (FB.out _ T3.out).1.2.2.1.2.2 (FB.out _ T3.out).1.2.2.2.1 (FB.out _ T3.out).1.2.2.2.2.1 (FB.out _ T3.out).1.2.2.2.2.2).mono ?_
  rintro e w4 ⟨l1, rfl, ho, hb⟩
  rw [HXL.out] at ho
  rw [HBB.out]
  have T4 := Lib.hid (Below.on T3.out hb)
  have O4 := Lib.hid (own_below O3.out hb)
  have P4 := Lib.hid ho
  clear ho hb q0 q1 q2_ q3 p0 p1 p2 p3 O3
  go_wp2_with fail
  refine (same_eq l0 l1 XL _ (Ints.of_own O4.out (by unfold maxLen; omega)) (Ints.of_own P4.out (by unfold maxLen; omega))).mono ?_
  rintro e w5 ⟨rfl, hb⟩
  have T5 := Lib.hid (Below.on T4.out hb)
  have O5 := Lib.hid (own_below O4.out hb)
  clear hb O4 P4 T2 T3 T4
  obtain ⟨la, lc, e1⟩ := Own.form O5.out
  subst e1
  cases b
  · have e0 := HNO.out rfl
    subst e0
    go_wp2_with fail
    refine (alive_any _ (FB.out _ T5.out).1.1).mono ?_
    rintro e wz ⟨rfl, rfl⟩
    go_wp2
    go_ret
    exact ⟨rfl, (FB.out _ T5.out).2.2⟩
  · obtain ⟨e1, e2, e3⟩ := HYES.out rfl
    have HTL := Lib.hid e2
    have HND := Lib.hid e3
    have HCL := Lib.hid (show ∀ k, k < n → ∃ X, la = some ⟨X, 0, none⟩ ∧ ∀ w', Below w5.heap.size w5 w' → w'.cell? ⟨X, k, none⟩ = some (.int .i64 (nth XL k)) from fun k hk => by
      obtain ⟨_, _, e4, kg⟩ := (Ints.of_own O5.out (by unfold maxLen; omega)).opened
      cases e4
      obtain ⟨M, f1, hl, f2⟩ := kg.get k (by omega)
      exact ⟨M, f1, fun w' hb => (hb.cell (p := ⟨M, k, none⟩) hl).trans f2⟩)
    rw [e1] at O5 ⊢
    clear e1 e2 e3 O5
    obtain ⟨TN, hTN⟩ : ∃ f : Nat → Nat, f = toldN XL := ⟨_, rfl⟩
    have H0 := Lib.hid (show TN 0 = 0 by rw [hTN]; rfl)
    have HSN := Lib.hid (show ∀ k, nth XL k < 0 → TN (k + 1) = TN k from fun k h => by rw [hTN]; exact toldN_no h)
    have HSY := Lib.hid (show ∀ k, ¬ nth XL k < 0 → TN (k + 1) = TN k + 1 from fun k h => by rw [hTN]; exact toldN_yes h)
    have HTB := Lib.hid (show ∀ k, TN k ≤ k from fun k => by rw [hTN]; exact toldN_le _ _)
    have HNE := Lib.hid (show need ≤ (TN n : Nat) by rw [hTN]; exact HND.out)
    clear hTN HND
    have TT := Lib.hid (Below.refl w5.heap.size w5)
    go_wp2
    go_loopw [12, 13] (fun c i wr => ∃ k : Nat, k ≤ n ∧ i = .int .i64 k ∧ c = .int .i64 (TN k : Nat) ∧ Hid (Below w5.heap.size w5 wr)) (fun _ i _ => n - (intOf i).toNat)
    case atStart => exact ⟨0, by omega, rfl, by rw [H0.out]; rfl, TT⟩
    case round =>
      clear TT
      obtain ⟨k, hk, rfl, rfl, hB⟩ := hrel
      obtain ⟨wo, rfl⟩ : ∃ wo : World, wo = wr := ⟨_, rfl⟩
      have htb := HTB.out k
      by_cases hkn : k < n
      · have hk1 : (k : Int) < (n : Int) := by omega
        obtain ⟨X, rfl, hc⟩ := HCL.out k hkn
        have c0 := hc _ hB.out
        have HC := Lib.hid hc
        clear hc
        by_cases hu : nth XL k < 0
        · have hst := HSN.out k hu
          go_wp2
          go_roundw
          case rel => exact ⟨k + 1, by omega, by go_num, by rw [hst], hB⟩
          case measure => simp [intOf]; omega
        · have HST := Lib.hid (HSY.out k (by omega))
          have hkey := HTL.out k hkn (by omega)
          have hne : (keyOf g (nth XL k) != nth keys k) = false := by simpa using hkey
          clear hkey
          obtain ⟨Y, rfl, hy⟩ := HCK.out k hkn
          have HY := Lib.hid hy
          clear hy
          have D5 : Hid (Below w5.heap.size w5 wo.drew) := Lib.hid hB.out.drew
          go_upto_region 16 with (fail)
          clear c0
          refine wp_region_class (C := fun w' => Hid (Below w5.heap.size w5 w')) (by kernel_rfl) (by kernel_rfl) D5 ?_
          repeat (first | go_big_quiet_skip | (go_big_quiet_want; go_big_quiet_op; first | go_big_quiet_on | (refine ⟨_, fun _ _ => rfl, ?_⟩; go_big_quiet_on)))
          go_big_quiet_want
          go_big_quiet_op
          refine ⟨.int .i64 (nth XL k), fun w' hw' => ?_, ?_⟩
          · have q0 := HC.out _ hw'.out
            simp [go_sem, q0]
          go_big_quiet_on
          repeat (first | go_big_quiet_skip | (go_big_quiet_want; go_big_quiet_op; first | go_big_quiet_on | (refine ⟨_, fun _ _ => rfl, ?_⟩; go_big_quiet_on)))
          go_big_quiet_want
          go_big_quiet_op
          go_big_quiet_call ((intro hw; exact (ikey_any g _ _ (FB.out _ (Below.on T5.out hw.out)).1.1).mono fun _ _ ⟨he, hb⟩ => ⟨he, Lib.hid (Below.on hw.out hb)⟩))
          repeat (first | go_big_quiet_skip | (go_big_quiet_want; go_big_quiet_op; first | go_big_quiet_on | (refine ⟨_, fun _ _ => rfl, ?_⟩; go_big_quiet_on)))
          go_big_quiet_want
          go_big_quiet_op
          refine ⟨.int .i64 (nth keys k), fun w' hw' => ?_, ?_⟩
          · have q0 := HY.out _ (Below.on T5.out hw'.out)
            simp [go_sem, q0]
          go_big_quiet_on
          repeat (first | go_big_quiet_skip | (go_big_quiet_want; go_big_quiet_op; first | go_big_quiet_on | (refine ⟨_, fun _ _ => rfl, ?_⟩; go_big_quiet_on)))
          refine wpQuiet_nil ?_
          intro w7 hw7
          go_wp2
          go_roundw
          case rel => exact ⟨k + 1, by omega, by go_num, by rw [HST.out]; go_num, hw7⟩
          case measure => simp [intOf]; omega
      · obtain rfl : n = k := by omega
        have hk1 : ¬ (n : Int) < (n : Int) := by omega
        have hge : decide (((TN n : Nat) : Int) ≥ need) = true := by simpa using HNE.out
        have hge2 := HNE.out
        go_wp2
        go_ret
        exact ⟨rfl, (FB.out _ (Below.on T5.out hB.out)).2.2⟩
end Go.Proofs.YtacalanlepjljaaDoor
