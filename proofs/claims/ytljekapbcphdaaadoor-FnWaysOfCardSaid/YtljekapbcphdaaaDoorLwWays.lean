/- The laws FnWaysOf, FnEnvelopeSum, walked. -/
import Derived.Test.YtljekapbcphdaaaDoorLwEn
import Derived.Test.YtljekapbcphdaaaDoorXWaysOf
import Derived.Test.YtljekapbcphdaaaDoorLawR
namespace Go.Proofs.YtljekapbcphdaaaDoor
open Go.RowKit

/-- The ways in memory: for each number a list of the one further exponent. -/
theorem ways_cells {W : World} {lo hi : Nat} {u : Value} {us : List Value} {g s v : Int} {q : Nat} (ho : OwnSS W lo hi u us (ways g s v)) (hI : envI g s v = true) (hq : ord g = q) :
    ∃ a c, u = .slice a q c ∧ ∀ k, k < q → ∃ G X cx, a = some ⟨G, 0, none⟩ ∧ ∀ w', Below W.heap.size W w' → w'.cell? ⟨G, k, none⟩ = some (.slice (some ⟨X, 0, none⟩) 1 cx) ∧ w'.cell? ⟨X, 0, none⟩ = some (.int .i64 (wayF g s v k)) := by
  have hW : ways g s v = waysTo g s v q := by rw [ways_yes hI, hq]; rfl
  rw [hW] at ho
  have hl := waysTo_len g s v q
  obtain ⟨g0, g4⟩ := envI_g hI
  obtain ⟨o1, o2⟩ := ord_bd g0 g4
  obtain ⟨a, c, e, k1⟩ := (ho.ints (by rw [hl]; unfold maxLen; omega) (fun j hj => by rw [hl] at hj; rw [waysTo_row _ _ _ _ _ hj]; unfold maxLen; simp)).opened
  rw [hl] at e
  refine ⟨a, c, e, fun k hk => ?_⟩
  obtain ⟨G, x, e1, h1, h2, h3⟩ := k1.get k (by rw [hl]; exact hk)
  rw [waysTo_row _ _ _ _ _ hk] at h3
  obtain ⟨ax, cx, e2, k2⟩ := h3.opened
  obtain ⟨X, e3, h4, h5⟩ := k2.get 0 (by simp)
  subst e3 e2
  exact ⟨G, X, cx, e1, fun w' hb => ⟨(hb.cell (p := ⟨G, k, none⟩) h1).trans h2, (hb.cell (p := ⟨X, 0, none⟩) h4).trans h5⟩⟩
theorem sord_q {g : Int} {q : Nat} (hq : ord g = q) (w' : World) : Calls Tryd.prog 34 #[.int .i64 g] w' fun e w'' => e = .returned (.int .i64 (q : Int)) ∧ Below w'.heap.size w' w'' := by rw [← hq]; exact sord_any g w'


set_option maxHeartbeats 1600000 in
theorem lWaysOf_walk (c : Value) (w : World) (h : CodeIn w c) (G : Gr w) : Calls Tryd.prog 12 #[c] w fun e w' => e = .returned (.bool true) ∧ Below w.heap.size w w' := by
  obtain ⟨a0, len0, cap0, rfl⟩ := h.slice
  have H := Lib.hid h; clear h
  have G0 := Lib.hid G; clear G
  have B0 := Lib.hid (Below.refl w.heap.size w)
  by_cases hl : 1048576 < len0
  · go_enter Tryd.func12, Tryd.ntmps12
    go_wp2
    go_ret
    exact ⟨rfl, Below.refl _ _⟩
  go_enter Tryd.func12, Tryd.ntmps12
  go_wp2_with fail
  refine (drawWaysOf_any _ _ H.out).mono ?_
  rintro e w1 ⟨g, s, v, rfl, hb⟩
  have B1 := Lib.hid (Below.on B0.out hb)
  have G1 := Lib.hid (G0.out.on hb)
  clear hb
  obtain ⟨xss, hxs⟩ : ∃ xss, ways g s v = xss := ⟨_, rfl⟩
  have HXL : Hid (xss.length ≤ 600) := Lib.hid (by rw [← hxs]; exact ways_len _ _ _)
  have HXR : Hid (∀ j, j < xss.length → (row xss j).length ≤ 2) := Lib.hid (by rw [← hxs]; exact ways_row _ _ _)
  have HXS := Lib.hid hxs
  clear hxs
  go_wp2_with fail
  refine (iways_any g s v _ G1.out).mono ?_
  rintro e w2 ⟨u, us, rfl, o, hb⟩
  have B2 := Lib.hid (Below.on B1.out hb)
  have G2 := Lib.hid (G1.out.on hb)
  have O2 := Lib.hid o
  clear o
  clear hb
  go_wp2_with fail
  refine (sways_any g s v _).mono ?_
  rintro e w3 ⟨u0, us0, rfl, o, hb⟩
  have B3 := Lib.hid (Below.on B2.out hb)
  have G3 := Lib.hid (G2.out.on hb)
  rw [HXS.out] at o
  have I3 := Lib.hid (ssOf HXL.out HXR.out o)
  have O3 := Lib.hid (O2.out.on hb)
  clear o O2
  clear hb
  go_wp2_with fail
  refine (samer_any u u0 xss _ (ssOf HXL.out HXR.out (by have := O3.out; rwa [HXS.out] at this)) I3.out).mono ?_
  rintro e w4 ⟨rfl, hb⟩
  have B4 := Lib.hid (Below.on B3.out hb)
  have G4 := Lib.hid (G3.out.on hb)
  have O4 := Lib.hid (O3.out.on hb)
  clear O3
  clear hb
  cases hI : envI g s v
  · skip
    have hl : us.length = 0 := by rw [O4.out.len, ways_no hI]; rfl
    obtain ⟨a, c', rfl, _⟩ := outer_cell O4.out.outer
    rw [hl]
    clear hl hI
    go_wp2_with fail
    refine (alive_any _ G4.out).mono ?_
    rintro e wz ⟨rfl, rfl⟩
    go_wp2
    go_ret
    exact ⟨rfl, B4.out⟩
  · skip
    obtain ⟨g0, g4⟩ := envI_g hI
    obtain ⟨q, hq, q3, q23⟩ := ord_of g0 g4
    obtain ⟨a, c', rfl, hcell⟩ := ways_cells O4.out hI hq
    have HC := Lib.hid hcell
    have HK := Lib.hid (show ∀ (k : Nat) (w' : World), k < q → Below w4.heap.size w4 w' → Calls Tryd.prog 32 #[.int .i64 g, .int .i64 s, .int .i64 v, .int .i64 k, .int .i64 (wayF g s v k)] w' fun e w'' => e = .returned (.bool true) ∧ Below w'.heap.size w' w'' from fun k w' hk hb => ienk_is (way_ok hI (by omega)) w' (G4.out.on hb))
    have HOR := Lib.hid (fun w' : World => sord_q hq w')
    have hqq : ((q : Int) == (q : Int)) = true := by simp
    have q0 : ((q : Int) == 0) = false := by simp; omega
    clear hcell hI hq g0 g4 O4
    go_wp2
    go_loopw [7] (fun i wr => ∃ k : Nat, k ≤ q ∧ i = .int .i64 k ∧ Hid (Below w4.heap.size w4 wr)) (fun i _ => q - (intOf i).toNat)
    case atStart => exact ⟨0, by omega, rfl, Lib.hid (Below.refl _ _)⟩
    case round =>
      obtain ⟨k, hk, rfl, hB⟩ := hrel
      obtain ⟨wo, rfl⟩ : ∃ wo : World, wo = wr := ⟨_, rfl⟩
      by_cases hlt : k < q
      · have hlt1 : (k : Int) < (q : Int) := by omega
        obtain ⟨G, X, cx, rfl, hc⟩ := HC.out k hlt
        obtain ⟨c1, c2⟩ := hc wo hB.out
        clear hc
        go_wp2_with fail
        refine (HK.out k wo hlt hB.out).mono ?_
        rintro e w1 ⟨rfl, hb⟩
        have B9 := Lib.hid (Below.on hB.out hb)
        clear hb c1 c2
        go_wp2
        go_roundw
        case rel => exact ⟨k + 1, by omega, by go_num, B9⟩
        case measure => simp [intOf]; omega
      · obtain rfl : k = q := by omega
        go_wp2_with fail
        refine (HOR.out wo).mono ?_
        rintro e w1 ⟨rfl, hb⟩
        have B9 := Lib.hid (Below.on B4.out (Below.on hB.out hb))
        clear hb
        go_wp2
        go_ret
        exact ⟨rfl, B9.out⟩

set_option maxHeartbeats 3200000 in
theorem lEnvelopeSum_walk (c : Value) (c2 : Value) (w : World) (h : CodeIn w c) (h' : CodeIn w c2) (G : Gr w) : Calls Tryd.prog 10 #[c, c2] w fun e w' => e = .returned (.bool true) ∧ Below w.heap.size w w' := by
  obtain ⟨a0, len0, cap0, rfl⟩ := h.slice
  obtain ⟨a1, len1, cap1, rfl⟩ := h'.slice
  have H := Lib.hid h; clear h
  clear h'
  have G0 := Lib.hid G; clear G
  have B0 := Lib.hid (Below.refl w.heap.size w)
  by_cases hl : 1048576 < len0
  · go_enter Tryd.func10, Tryd.ntmps10
    go_wp2
    go_ret
    exact ⟨rfl, Below.refl _ _⟩
  by_cases hl2 : 1048576 < len1
  · go_enter Tryd.func10, Tryd.ntmps10
    go_wp2
    go_ret
    exact ⟨rfl, Below.refl _ _⟩
  go_enter Tryd.func10, Tryd.ntmps10
  go_wp2_with fail
  refine (drawEnvelopeSum_any _ _ H.out).mono ?_
  rintro e w1 ⟨g, a, b, t, rfl, hb⟩
  have B1 := Lib.hid (Below.on B0.out hb)
  have G1 := Lib.hid (G0.out.on hb)
  clear hb
  obtain ⟨v, hv⟩ : ∃ v, envS g a b t = v := ⟨_, rfl⟩
  have HV := Lib.hid hv
  have hvv : (v != v) = false := by simp
  go_wp2_with fail
  refine (isum_any g a b t _ G1.out).mono ?_
  rintro e w2 ⟨rfl, hb⟩
  have B2 := Lib.hid (Below.on B1.out hb)
  have G2 := Lib.hid (G1.out.on hb)
  rw [HV.out]
  clear hb
  go_wp2_with fail
  refine (ssum_any g a b t _).mono ?_
  rintro e w3 ⟨rfl, hb⟩
  have B3 := Lib.hid (Below.on B2.out hb)
  have G3 := Lib.hid (G2.out.on hb)
  rw [HV.out]
  clear hb
  by_cases hx : v < 0
  · have he : v = -1 := by
      rcases envS_cases g a b t with h1 | ⟨_, _, _, h1⟩
      · rw [← hv]; exact h1
      · have := (elB_bound h1).1; omega
    have he2 : (v == -1) = true := by simpa using he
    clear hv he
    go_wp2_with fail
    refine (alive_any _ G3.out).mono ?_
    rintro e wz ⟨rfl, rfl⟩
    go_wp2
    go_ret
    exact ⟨rfl, B3.out⟩
  · obtain ⟨ha, hbb, ht, _⟩ : elB g a = true ∧ elB g b = true ∧ exB g t = true ∧ elB g (envS g a b t) = true := by
      rcases envS_cases g a b t with h1 | h1
      · omega
      · exact h1
    obtain ⟨⟨g0, g4⟩, t0, t1⟩ := exB_true.1 ht
    obtain ⟨q, hq, q3, q23⟩ := ord_of g0 g4
    obtain ⟨s, hs⟩ : ∃ s, bas g = s := ⟨_, rfl⟩
    have hsnd : sndB g s = true := by rw [← hs]; exact snd_true.2 ⟨bas_el g0 g4, bas_one g0 g4⟩
    have hIa : envI g s a = true := envI_true.2 ⟨hsnd, ha⟩
    have hIb : envI g s b = true := envI_true.2 ⟨hsnd, hbb⟩
    have HBA := Lib.hid (fun (w' : World) (G' : Gr w') => ibas_b g w' G')
    rw [hs] at HBA
    have HOR := Lib.hid (fun w' : World => sord_q hq w')
    obtain ⟨n, hn⟩ : ∃ n : Nat, n = len1 := ⟨_, rfl⟩
    have hnq : n % q < q := Nat.mod_lt _ (by omega)
    have hnq3 : n / 3 % q < q := Nat.mod_lt _ (by omega)
    obtain ⟨i, hi⟩ : ∃ i : Nat, n % q = i := ⟨_, rfl⟩
    obtain ⟨j, hj⟩ : ∃ j : Nat, n / 3 % q = j := ⟨_, rfl⟩
    have HI1 : Hid ((len1 : Int).tmod q = i) := Lib.hid (by rw [← hn, ← hi]; exact (Int.tmod_eq_emod_of_nonneg (by omega)).trans rfl)
    have HJ1 : Hid ((len1 : Int) / 3 % (q : Int) = j) := Lib.hid (by rw [← hn, ← hj]; rfl)
    rw [hi] at hnq
    rw [hj] at hnq3
    have SUM : Hid (∀ (w' : World), Gr w' → Calls Tryd.prog 32 #[.int .i64 g, .int .i64 s, .int .i64 v, .int .i64 ((i + t * j) % (q : Int)), .int .i64 ((wayF g s a i + t * wayF g s b j) % (q : Int))] w' fun e w'' => e = .returned (.bool true) ∧ Below w'.heap.size w' w'') := Lib.hid (fun w' G' => by
      have h := sum_ok (i := i) (j := j) hsnd ha hbb ht (by omega) (by omega)
      rw [hv, hq] at h
      exact ienk_is h w' G')
    obtain ⟨A, hA⟩ : ∃ A, wayF g s a i = A := ⟨_, rfl⟩
    obtain ⟨D, hD⟩ : ∃ D, wayF g s b j = D := ⟨_, rfl⟩
    obtain ⟨A0, A1⟩ := way_bd (s := s) (e := a) g0 g4 (i : Int)
    obtain ⟨D0, D1⟩ := way_bd (s := s) (e := b) g0 g4 (j : Int)
    have HWA := Lib.hid (fun (W : World) (u : Value) (us : List Value) lo hi (ho : OwnSS W lo hi u us (ways g s a)) => ways_cells ho hIa hq)
    have HWB := Lib.hid (fun (W : World) (u : Value) (us : List Value) lo hi (ho : OwnSS W lo hi u us (ways g s b)) => ways_cells ho hIb hq)
    rw [hA, hD] at SUM
    rw [hA, hq] at A1
    rw [hA] at A0
    rw [hD, hq] at D1
    rw [hD] at D0
    rw [hq] at t1
    have HA := Lib.hid hA
    have HD := Lib.hid hD
    have qz : ((q : Int) == 0) = false := by simp; omega
    have qz2 : ¬ (q : Int) = 0 := by omega
    have p0 : 0 ≤ t * (j : Int) := Int.mul_nonneg t0 (by omega)
    have p1 : t * (j : Int) ≤ 23 * 23 := Int.mul_le_mul (by omega) (by omega) (by omega) (by omega)
    have p2 : 0 ≤ t * D := Int.mul_nonneg t0 D0
    have p3 : t * D ≤ 23 * 23 := Int.mul_le_mul (by omega) (by omega) (by omega) (by omega)
    clear hv hA hD hq hs hsnd hIa hIb ha hbb ht g0 g4 hi hj hn
    go_wp2_with fail
    refine (HOR.out _).mono ?_
    rintro e w4 ⟨rfl, hb⟩
    have B4 := Lib.hid (Below.on B3.out hb)
    have G4 := Lib.hid (G3.out.on hb)
    clear hb
    go_wp2_with fail
    refine (HBA.out _ G4.out).mono ?_
    rintro e w5 ⟨rfl, hb⟩
    have B5 := Lib.hid (Below.on B4.out hb)
    have G5 := Lib.hid (G4.out.on hb)
    clear hb
    go_wp2_with fail
    refine (iways_any g s a _ G5.out).mono ?_
    rintro e w6 ⟨ua, usa, rfl, o, hb⟩
    have B6 := Lib.hid (Below.on B5.out hb)
    have G6 := Lib.hid (G5.out.on hb)
    obtain ⟨aa, ca, rfl, hc⟩ := HWA.out _ _ _ _ _ o
    have CA := Lib.hid hc
    clear o hc
    clear hb
    go_wp2_with fail
    refine (iways_any g s b _ G6.out).mono ?_
    rintro e w7 ⟨ub, usb, rfl, o, hb⟩
    have B7 := Lib.hid (Below.on B6.out hb)
    have G7 := Lib.hid (G6.out.on hb)
    obtain ⟨ab, cb, rfl, hc⟩ := HWB.out _ _ _ _ _ o
    have CB := Lib.hid hc
    have CA2 := Lib.hid (fun k hk => CA.out k hk)
    have BW := Lib.hid hb
    clear o hc
    clear hb
    obtain ⟨Ga, Xa, cxa, rfl, hca⟩ := CA2.out i hnq
    obtain ⟨Gb, Xb, cxb, rfl, hcb⟩ := CB.out j hnq3
    rw [HA.out] at hca
    rw [HD.out] at hcb
    have HCC := Lib.hid (show ∀ w', Below w7.heap.size w7 w' → (w'.cell? ⟨Ga, i, none⟩ = some (.slice (some ⟨Xa, 0, none⟩) 1 cxa) ∧ w'.cell? ⟨Xa, 0, none⟩ = some (.int .i64 A)) ∧ (w'.cell? ⟨Gb, j, none⟩ = some (.slice (some ⟨Xb, 0, none⟩) 1 cxb) ∧ w'.cell? ⟨Xb, 0, none⟩ = some (.int .i64 D)) from fun w' hb => ⟨hca w' (Below.on BW.out hb), hcb w' hb⟩)
    clear hca hcb CA CA2 CB HA HD
    obtain ⟨⟨c1, c2⟩, c3, c4⟩ := HCC.out _ (Below.refl _ _)
    have i1 : (i : Int) < (q : Int) := by omega
    have j1 : (j : Int) < (q : Int) := by omega
    have hi1 := HI1.out
    have hj1 := HJ1.out
    have qq : ((q : Int) != (q : Int)) = false := by simp
    go_wp2_with fail
    have e1 : ((i : Int) + t * j).tmod (q : Int) = ((i : Int) + t * j) % (q : Int) := Int.tmod_eq_emod_of_nonneg (by omega)
    have e2 : (A + t * D).tmod (q : Int) = (A + t * D) % (q : Int) := Int.tmod_eq_emod_of_nonneg (by omega)
    have HD0 : Hid (Below w7.heap.size w7 w7.drew) := Lib.hid (Below.refl _ _).drew
    refine wp_region_class (C := fun w' => Hid (Below w7.heap.size w7 w')) (by kernel_rfl) (by kernel_rfl) HD0 ?_
    repeat (first | go_big_quiet_skip | (go_big_quiet_want; go_big_quiet_op; first | go_big_quiet_on | (refine ⟨_, fun _ _ => rfl, ?_⟩; go_big_quiet_on)))
    go_big_quiet_want
    go_big_quiet_op
    refine ⟨.slice (some ⟨Xa, 0, none⟩) 1 cxa, fun w' hw' => ?_, ?_⟩
    · have q := (HCC.out w' hw'.out).1.1
      simp [go_sem, q]
    go_big_quiet_on
    repeat (first | go_big_quiet_skip | (go_big_quiet_want; go_big_quiet_op; first | go_big_quiet_on | (refine ⟨_, fun _ _ => rfl, ?_⟩; go_big_quiet_on)))
    go_big_quiet_want
    go_big_quiet_op
    refine ⟨.int .i64 A, fun w' hw' => ?_, ?_⟩
    · have q := (HCC.out w' hw'.out).1.2
      simp [go_sem, q]
    go_big_quiet_on
    repeat (first | go_big_quiet_skip | (go_big_quiet_want; go_big_quiet_op; first | go_big_quiet_on | (refine ⟨_, fun _ _ => rfl, ?_⟩; go_big_quiet_on)))
    go_big_quiet_want
    go_big_quiet_op
    refine ⟨.slice (some ⟨Xb, 0, none⟩) 1 cxb, fun w' hw' => ?_, ?_⟩
    · have q := (HCC.out w' hw'.out).2.1
      simp [go_sem, q]
    go_big_quiet_on
    repeat (first | go_big_quiet_skip | (go_big_quiet_want; go_big_quiet_op; first | go_big_quiet_on | (refine ⟨_, fun _ _ => rfl, ?_⟩; go_big_quiet_on)))
    go_big_quiet_want
    go_big_quiet_op
    refine ⟨.int .i64 D, fun w' hw' => ?_, ?_⟩
    · have q := (HCC.out w' hw'.out).2.2
      simp [go_sem, q]
    go_big_quiet_on
    repeat (first | go_big_quiet_skip | (go_big_quiet_want; go_big_quiet_op; first | go_big_quiet_on | (refine ⟨_, fun _ _ => rfl, ?_⟩; go_big_quiet_on)))
    go_big_quiet_want
    go_big_quiet_op
    go_big_quiet_call ((intro hw; exact (SUM.out _ (G7.out.on hw.out)).mono fun _ _ ⟨he, hb⟩ => ⟨he, Lib.hid (Below.on hw.out hb)⟩))
    repeat (first | go_big_quiet_skip | (go_big_quiet_want; go_big_quiet_op; first | go_big_quiet_on | (refine ⟨_, fun _ _ => rfl, ?_⟩; go_big_quiet_on)))
    refine wpQuiet_nil ?_
    intro w' hw'
    have BZ := Lib.hid (Below.on B7.out hw'.out)
    clear hw'
    go_wp2
    go_ret
    exact ⟨rfl, BZ.out⟩

end Go.Proofs.YtljekapbcphdaaaDoor
