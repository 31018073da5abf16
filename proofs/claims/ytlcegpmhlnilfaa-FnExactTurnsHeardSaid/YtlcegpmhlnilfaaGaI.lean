/- GraphAsker and GraphAsked, both sides. -/
import Derived.Test.YtlcegpmhlnilfaaGphI
import Derived.Test.YtlcegpmhlnilfaaPurN
namespace Go.Proofs.Ytlcegpmhlnilfaa
open Go.RowKit

theorem inB_has (xs : List Int) (x : Int) : inB xs x = hasB xs x := by
  cases h : hasB xs x
  · exact inB_no fun j hj e => by rw [has_yes hj e] at h; cases h
  · unfold hasB at h
    rw [List.contains_iff_mem] at h
    obtain ⟨j, hj, e⟩ := List.getElem_of_mem h
    exact inB_yes hj (by rw [nth_get hj]; exact e)
theorem igar_any (v : Value) (l : List Int) (w : World) (h : Ints w v l) : Calls Try.prog 10 #[v] w fun e w' => e = .returned (.bool (fouB l)) ∧ Below w.heap.size w w' := by
  have HH := Lib.hid h
  obtain ⟨a, c, rfl, k1⟩ := h.opened
  have hm := k1.max
  unfold maxLen at hm
  clear h k1
  by_cases h4 : l.length = 4
  · have HX := Lib.hid (show fouB l = bitB l by unfold fouB; rw [h4]; simp)
    have hq : ((l.length : Int) == 4) = true := by rw [beq_iff_eq]; omega
    clear h4
    go_enter Try.func10, Try.ntmps10
    go_wp2_with fail
    refine (ient_any _ l _ HH.out).mono ?_
    rintro e w1 ⟨rfl, hb⟩
    go_wp2
    go_ret
    exact ⟨by rw [HX.out]; rfl, hb⟩
  · have HX := Lib.hid (show fouB l = false from fouB_false fun h => h4 h.1)
    have hq : ((l.length : Int) == 4) = false := by rw [beq_eq_false_iff_ne]; omega
    clear h4
    go_enter Try.func10, Try.ntmps10
    go_wp2
    go_ret
    exact ⟨by rw [HX.out]; rfl, Below.refl _ _⟩
theorem sgar_any (v : Value) (l : List Int) (w : World) (h : Ints w v l) : Calls Try.prog 8 #[v] w fun e w' => e = .returned (.bool (fouB l)) ∧ Below w.heap.size w w' := by
  obtain ⟨a, c, rfl, k1⟩ := h.opened
  obtain ⟨n, hn⟩ : ∃ n, l.length = n := ⟨_, rfl⟩
  have hmax := k1.max
  have HC := Lib.hid (show ∀ k, k < n → _ from fun k hk => k1.get k (by rw [hn]; exact hk))
  have HY := Lib.hid (show (∀ j, j < n → nth l j = 0 ∨ nth l j = 1) → fouB l = ((n : Int) == 4) from fun h => by
    have hb : bitB l = true := bitB_true.2 fun j hj => h j (by rw [← hn]; exact hj)
    unfold fouB
    rw [hb, hn, Bool.and_true]
    by_cases h4 : n = 4
    · subst h4; rfl
    · rw [decide_eq_false h4]; symm; rw [beq_eq_false_iff_ne]; omega)
  have HN := Lib.hid (show ∀ k, k < n → ¬ (nth l k = 0 ∨ nth l k = 1) → fouB l = false from fun k hk h => fouB_false fun hc => h (bitB_true.1 hc.2 k (by rw [hn]; exact hk)))
  rw [hn] at hmax ⊢
  unfold maxLen at hmax
  clear h k1 hn
  go_enter Try.func8, Try.ntmps8
  go_wp2
  go_loopw [3] (fun i wr => ∃ k : Nat, k ≤ n ∧ i = .int .i64 k ∧ Hid (∀ j, j < k → nth l j = 0 ∨ nth l j = 1) ∧ wr = w) (fun i _ => n - (intOf i).toNat)
  case atStart => exact ⟨0, by omega, rfl, Lib.hid (fun j hj => by omega), rfl⟩
  case round =>
    obtain ⟨k, hk, rfl, hj, rfl⟩ := hrel
    by_cases hlt : k < n
    · obtain ⟨A, rfl, _, hc⟩ := HC.out k hlt
      have hlt1 : (k : Int) < (n : Int) := by omega
      by_cases he : nth l k = 0 ∨ nth l k = 1
      · have hd : (decide (0 ≤ nth l k) && decide (nth l k ≤ 1)) = true := by rcases he with e | e <;> rw [e] <;> rfl
        have HJ : Hid (∀ j, j < k + 1 → nth l j = 0 ∨ nth l j = 1) := Lib.hid (fun j hj' => by
          by_cases e : j < k
          · exact hj.out j e
          · obtain rfl : j = k := by omega
            exact he)
        clear hj he
        go_wp2_with fail
        refine (l1In_tb hd _).mono ?_
        rintro e w1 ⟨rfl, rfl⟩
        go_wp2
        go_roundw
        case rel => exact ⟨k + 1, by omega, by go_num, HJ, by trivial⟩
        case measure => simp [intOf]; omega
      · have hd : (decide (0 ≤ nth l k) && decide (nth l k ≤ 1)) = false := by
          cases hb : (decide (0 ≤ nth l k) && decide (nth l k ≤ 1))
          · rfl
          · simp at hb; omega
        have HX := Lib.hid (HN.out k hlt he)
        clear hj he
        go_wp2_with fail
        refine (l1In_tb hd _).mono ?_
        rintro e w1 ⟨rfl, rfl⟩
        go_wp2
        go_ret
        exact ⟨by rw [HX.out]; rfl, Below.refl _ _⟩
    · obtain rfl : k = n := by omega
      have HX := Lib.hid (HY.out hj.out)
      have hlt1 : ¬ (k : Int) < (k : Int) := by omega
      go_wp2
      go_ret
      exact ⟨by rw [HX.out]; rfl, Below.refl _ _⟩

set_option maxHeartbeats 1600000 in
theorem igas_any (av v : Value) (l es : List Int) (p : Int) (w : World) (ha : Ints w av l) (h : Ints w v es) (hs : ∀ j, j < es.length → intIn (nth es j)) :
    Calls Try.prog 15 #[av, .agg #[.int .i64 p, v]] w fun e w' => e = .returned (.int .i64 (gasB l p es)) ∧ Below w.heap.size w w' := by
  have HA := Lib.hid ha
  have HE := Lib.hid h
  have HS := Lib.hid hs
  obtain ⟨aa, ac, rfl, ka⟩ := ha.opened
  obtain ⟨ga, gc, rfl, kg⟩ := h.opened
  have HKA := Lib.hid ka
  have HKG := Lib.hid kg
  have hme := kg.max
  unfold maxLen at hme
  have I0 := Lib.hid (InB.start w [.int .i64 p, .slice ga es.length gc] 30)
  clear ha h hs ka kg
  cases h1 : fouB l
  · have HX := Lib.hid (gas_no1 (es := es) (p := p) h1)
    have H1 := Lib.hid h1
    clear h1
    go_enter Try.func15, Try.ntmps15
    go_wp2_with fail
    refine (igar_any _ l _ (HA.out.below I0.out.fin)).mono ?_
    rintro e w1 ⟨rfl, hb⟩
    rw [H1.out]
    have I1 := Lib.hid (I0.out.on hb)
    clear hb
    go_wp2
    go_ret
    exact ⟨by rw [HX.out]; rfl, I1.out.fin⟩
  cases h2 : gkB p es
  · have HX := Lib.hid (gas_no2 (l := l) h2)
    have H1 := Lib.hid h1
    have H2 := Lib.hid h2
    clear h1 h2
    go_enter Try.func15, Try.ntmps15
    go_wp2_with fail
    refine (igar_any _ l _ (HA.out.below I0.out.fin)).mono ?_
    rintro e w1 ⟨rfl, hb⟩
    rw [H1.out]
    have I1 := Lib.hid (I0.out.on hb)
    have c0 := I1.out.box.cell 0
    have c1 := I1.out.box.cell 1
    simp at c0 c1
    clear hb
    go_wp2_with fail
    refine (igk_is H2.out (HE.out.below I1.out.fin) HS.out).mono ?_
    rintro e w2 ⟨rfl, hb⟩
    have I2 := Lib.hid (I1.out.on hb)
    clear hb c0 c1
    go_wp2
    go_ret
    exact ⟨by rw [HX.out]; rfl, I2.out.fin⟩
  have HX := Lib.hid (gas_yes h1 h2)
  have hg := gkB_true.1 h2
  have HOF := Lib.hid (one_first hg)
  have H1 := Lib.hid h1
  have H2 := Lib.hid h2
  have hl4 : l.length = 4 := (fouB_true.1 h1).1
  obtain ⟨r, hr⟩ : ∃ r, es.length % 2 = r := ⟨_, rfl⟩
  have hr2 : r < 2 := by omega
  have hmod : (es.length : Int).tmod 2 = (r : Int) := by rw [Int.tmod_eq_emod_of_nonneg (by omega)]; omega
  have HL4 := Lib.hid hl4
  have HCA := Lib.hid (show ∀ w', Below w.heap.size w w' → ∀ k, k < 4 → ∃ A, aa = some ⟨A, 0, none⟩ ∧ w'.cell? ⟨A, k, none⟩ = some (.int .i64 (nth l k)) from fun w' hb k hk => by
    obtain ⟨A, e1, _, e3⟩ := (HKA.out.on hb).get k (by rw [hl4]; exact hk)
    exact ⟨A, e1, e3⟩)
  clear h1 h2 hg hl4
  cases hb1 : hasB es 1
  · have HK := Lib.hid (show knd es = r + 2 by unfold knd; rw [hr, hb1]; rfl)
    have HIN := Lib.hid (show inB es 1 = false by rw [inB_has]; exact hb1)
    clear hr hb1
    rw [HX.out, HK.out]
    go_enter Try.func15, Try.ntmps15
    go_wp2_with fail
    refine (igar_any _ l _ (HA.out.below I0.out.fin)).mono ?_
    rintro e w1 ⟨rfl, hb⟩
    rw [H1.out]
    have I1 := Lib.hid (I0.out.on hb)
    have c0 := I1.out.box.cell 0
    have c1 := I1.out.box.cell 1
    simp at c0 c1
    clear hb
    go_wp2_with fail
    refine (igk_is H2.out (HE.out.below I1.out.fin) HS.out).mono ?_
    rintro e w2 ⟨rfl, hb⟩
    have I2 := Lib.hid (I1.out.on hb)
    clear hb c0 c1
    have c1 := I2.out.box.cell 1
    simp at c1
    have HD : Hid (InB w [.int .i64 p, .slice ga es.length gc] 30 w2.drew) := Lib.hid (I2.out.on (Below.refl _ _).drew)
    have hl0 : (l.length : Int) = 4 := by have := HL4.out; omega
    have hkn : r + 2 < l.length := by have := HL4.out; omega
    go_wp2_with fail
    refine wp_region_cls (C := fun w' => Hid (InB w [.int .i64 p, .slice ga es.length gc] 30 w')) (by kernel_rfl) (by kernel_rfl) HD ?_
    repeat (first | go_big_quiet_skip | (go_big_quiet_want; go_big_quiet_op; first | go_big_quiet_on | (refine ⟨_, fun _ _ => rfl, ?_⟩; go_big_quiet_on)))
    go_big_quiet_want
    go_big_quiet_op
    refine ⟨.slice ga es.length gc, fun w' hw' => ?_, ?_⟩
    · have q := hw'.out.box.cell 1
      try simp at q
      simp [go_sem, q]
    go_big_quiet_on
    repeat (first | go_big_quiet_skip | (go_big_quiet_want; go_big_quiet_op; first | go_big_quiet_on | (refine ⟨_, fun _ _ => rfl, ?_⟩; go_big_quiet_on)))
    go_big_quiet_want
    go_big_quiet_op
    go_big_quiet_call ((intro hw; exact (edge_any 0 1 _ (by omega) (by omega) (by omega) (by omega)).mono fun _ _ ⟨he, hb⟩ => ⟨(by rw [he]; rfl : _ = Ending.returned (.int .i64 1)), by rw [hb]; exact hw⟩))
    repeat (first | go_big_quiet_skip | (go_big_quiet_want; go_big_quiet_op; first | go_big_quiet_on | (refine ⟨_, fun _ _ => rfl, ?_⟩; go_big_quiet_on)))
    go_big_quiet_want
    go_big_quiet_op
    go_big_quiet_call ((intro hw; exact (ctn_is HIN.out (HE.out.below hw.out.fin)).mono fun _ _ ⟨he, hb⟩ => ⟨he, Lib.hid (hw.out.on hb)⟩))
    repeat (first | go_big_quiet_skip | (go_big_quiet_want; go_big_quiet_op; first | go_big_quiet_on | (refine ⟨_, fun _ _ => rfl, ?_⟩; go_big_quiet_on)))
    refine wpQuiet_nil ?_
    intro w3 I3
    clear HD c1 hmod
    obtain ⟨A, rfl, hc⟩ := HCA.out _ I3.out.fin (r + 2) (by omega)
    go_wp2
    go_ret
    exact ⟨rfl, I3.out.fin⟩
  · have HK := Lib.hid (show knd es = r by unfold knd; rw [hr, hb1]; rfl)
    have HIN := Lib.hid (show inB es 1 = true by rw [inB_has]; exact hb1)
    clear hr hb1
    rw [HX.out, HK.out]
    go_enter Try.func15, Try.ntmps15
    go_wp2_with fail
    refine (igar_any _ l _ (HA.out.below I0.out.fin)).mono ?_
    rintro e w1 ⟨rfl, hb⟩
    rw [H1.out]
    have I1 := Lib.hid (I0.out.on hb)
    have c0 := I1.out.box.cell 0
    have c1 := I1.out.box.cell 1
    simp at c0 c1
    clear hb
    go_wp2_with fail
    refine (igk_is H2.out (HE.out.below I1.out.fin) HS.out).mono ?_
    rintro e w2 ⟨rfl, hb⟩
    have I2 := Lib.hid (I1.out.on hb)
    clear hb c0 c1
    have c1 := I2.out.box.cell 1
    simp at c1
    have HD : Hid (InB w [.int .i64 p, .slice ga es.length gc] 30 w2.drew) := Lib.hid (I2.out.on (Below.refl _ _).drew)
    have hl0 : (l.length : Int) = 4 := by have := HL4.out; omega
    have hkn : r < l.length := by have := HL4.out; omega
    go_wp2_with fail
    refine wp_region_cls (C := fun w' => Hid (InB w [.int .i64 p, .slice ga es.length gc] 30 w')) (by kernel_rfl) (by kernel_rfl) HD ?_
    repeat (first | go_big_quiet_skip | (go_big_quiet_want; go_big_quiet_op; first | go_big_quiet_on | (refine ⟨_, fun _ _ => rfl, ?_⟩; go_big_quiet_on)))
    go_big_quiet_want
    go_big_quiet_op
    refine ⟨.slice ga es.length gc, fun w' hw' => ?_, ?_⟩
    · have q := hw'.out.box.cell 1
      try simp at q
      simp [go_sem, q]
    go_big_quiet_on
    repeat (first | go_big_quiet_skip | (go_big_quiet_want; go_big_quiet_op; first | go_big_quiet_on | (refine ⟨_, fun _ _ => rfl, ?_⟩; go_big_quiet_on)))
    go_big_quiet_want
    go_big_quiet_op
    go_big_quiet_call ((intro hw; exact (edge_any 0 1 _ (by omega) (by omega) (by omega) (by omega)).mono fun _ _ ⟨he, hb⟩ => ⟨(by rw [he]; rfl : _ = Ending.returned (.int .i64 1)), by rw [hb]; exact hw⟩))
    repeat (first | go_big_quiet_skip | (go_big_quiet_want; go_big_quiet_op; first | go_big_quiet_on | (refine ⟨_, fun _ _ => rfl, ?_⟩; go_big_quiet_on)))
    go_big_quiet_want
    go_big_quiet_op
    go_big_quiet_call ((intro hw; exact (ctn_is HIN.out (HE.out.below hw.out.fin)).mono fun _ _ ⟨he, hb⟩ => ⟨he, Lib.hid (hw.out.on hb)⟩))
    repeat (first | go_big_quiet_skip | (go_big_quiet_want; go_big_quiet_op; first | go_big_quiet_on | (refine ⟨_, fun _ _ => rfl, ?_⟩; go_big_quiet_on)))
    refine wpQuiet_nil ?_
    intro w3 I3
    clear HD c1 hmod
    obtain ⟨A, rfl, hc⟩ := HCA.out _ I3.out.fin (r) (by omega)
    go_wp2
    go_ret
    exact ⟨rfl, I3.out.fin⟩

set_option maxHeartbeats 1600000 in
theorem sgas_any (av v : Value) (l es : List Int) (p : Int) (w : World) (ha : Ints w av l) (h : Ints w v es) (hp : intIn p) (hs : ∀ j, j < es.length → intIn (nth es j)) :
    Calls Try.prog 13 #[av, .agg #[.int .i64 p, v]] w fun e w' => e = .returned (.int .i64 (gasB l p es)) ∧ Below w.heap.size w w' := by
  have HA := Lib.hid ha
  have HE := Lib.hid h
  have HS := Lib.hid hs
  have HP := Lib.hid hp
  obtain ⟨aa, ac, rfl, ka⟩ := ha.opened
  obtain ⟨ga, gc, rfl, kg⟩ := h.opened
  have HKA := Lib.hid ka
  have HKG := Lib.hid kg
  have hme := kg.max
  unfold maxLen at hme
  have I0 := Lib.hid (InB.start w [.int .i64 p, .slice ga es.length gc] 30)
  clear ha h hs ka kg hp
  cases h1 : fouB l
  · have HX := Lib.hid (gas_no1 (es := es) (p := p) h1)
    have H1 := Lib.hid h1
    clear h1
    go_enter Try.func13, Try.ntmps13
    go_wp2_with fail
    refine (sgar_any _ l _ (HA.out.below I0.out.fin)).mono ?_
    rintro e w1 ⟨rfl, hb⟩
    rw [H1.out]
    have I1 := Lib.hid (I0.out.on hb)
    clear hb
    go_wp2
    go_ret
    exact ⟨by rw [HX.out]; rfl, I1.out.fin⟩
  cases h2 : gkB p es
  · have HX := Lib.hid (gas_no2 (l := l) h2)
    have H1 := Lib.hid h1
    have H2 := Lib.hid h2
    clear h1 h2
    go_enter Try.func13, Try.ntmps13
    go_wp2_with fail
    refine (sgar_any _ l _ (HA.out.below I0.out.fin)).mono ?_
    rintro e w1 ⟨rfl, hb⟩
    rw [H1.out]
    have I1 := Lib.hid (I0.out.on hb)
    have c0 := I1.out.box.cell 0
    have c1 := I1.out.box.cell 1
    simp at c0 c1
    clear hb
    go_wp2_with fail
    refine (sgk_is H2.out (HE.out.below I1.out.fin) HP.out HS.out).mono ?_
    rintro e w2 ⟨rfl, hb⟩
    have I2 := Lib.hid (I1.out.on hb)
    clear hb c0 c1
    go_wp2
    go_ret
    exact ⟨by rw [HX.out]; rfl, I2.out.fin⟩
  have HX := Lib.hid (gas_yes h1 h2)
  have hg := gkB_true.1 h2
  have HOF := Lib.hid (one_first hg)
  have H1 := Lib.hid h1
  have H2 := Lib.hid h2
  have hl4 : l.length = 4 := (fouB_true.1 h1).1
  obtain ⟨r, hr⟩ : ∃ r, es.length % 2 = r := ⟨_, rfl⟩
  have hr2 : r < 2 := by omega
  have hmod : (es.length : Int).tmod 2 = (r : Int) := by rw [Int.tmod_eq_emod_of_nonneg (by omega)]; omega
  have HL4 := Lib.hid hl4
  have HCA := Lib.hid (show ∀ w', Below w.heap.size w w' → ∀ k, k < 4 → ∃ A, aa = some ⟨A, 0, none⟩ ∧ w'.cell? ⟨A, k, none⟩ = some (.int .i64 (nth l k)) from fun w' hb k hk => by
    obtain ⟨A, e1, _, e3⟩ := (HKA.out.on hb).get k (by rw [hl4]; exact hk)
    exact ⟨A, e1, e3⟩)
  clear h1 h2 hg hl4
  by_cases h0 : 0 < es.length
  case neg =>
    have hb1 : hasB es 1 = false := by rw [HOF.out]; simp [h0]
    have HZ := Lib.hid (show es.length = 0 by omega)
    have hgt : ¬ ((es.length : Int) > 0) := by omega
    have HK := Lib.hid (show knd es = 2 + r by unfold knd; rw [hr, hb1]; show r + 2 = 2 + r; omega)
    clear hr hb1 HOF
    rw [HX.out, HK.out]
    clear h0
    go_enter Try.func13, Try.ntmps13
    go_wp2_with fail
    refine (sgar_any _ l _ (HA.out.below I0.out.fin)).mono ?_
    rintro e w1 ⟨rfl, hb⟩
    rw [H1.out]
    have I1 := Lib.hid (I0.out.on hb)
    have c0 := I1.out.box.cell 0
    have c1 := I1.out.box.cell 1
    simp at c0 c1
    clear hb
    go_wp2_with fail
    refine (sgk_is H2.out (HE.out.below I1.out.fin) HP.out HS.out).mono ?_
    rintro e w2 ⟨rfl, hb⟩
    have I2 := Lib.hid (I1.out.on hb)
    clear hb c0 c1
    have c1 := I2.out.box.cell 1
    simp at c1
    have hl0 : (l.length : Int) = 4 := by have := HL4.out; omega
    have hkn : 2 + r < l.length := by have := HL4.out; omega
    obtain ⟨A, rfl, hc⟩ := HCA.out _ I2.out.fin (2 + r) (by omega)
    go_wp2
    go_ret
    exact ⟨rfl, I2.out.fin⟩
  have hgt : (es.length : Int) > 0 := by omega
  have HCG := Lib.hid (show ∀ w', Below w.heap.size w w' → ∃ G, ga = some ⟨G, 0, none⟩ ∧ w'.cell? ⟨G, 0, none⟩ = some (.int .i64 (nth es 0)) from fun w' hb => by
    obtain ⟨G, e1, _, e3⟩ := (HKG.out.on hb).get 0 h0
    exact ⟨G, e1, e3⟩)
  by_cases he : nth es 0 = 1
  · have hb1 : hasB es 1 = true := by rw [HOF.out]; simp [h0, he]
    have HE0 := Lib.hid he
    clear he
    have HK := Lib.hid (show knd es = r by unfold knd; rw [hr, hb1]; rfl)
    clear hr hb1 HOF
    rw [HX.out, HK.out]
    go_enter Try.func13, Try.ntmps13
    go_wp2_with fail
    refine (sgar_any _ l _ (HA.out.below I0.out.fin)).mono ?_
    rintro e w1 ⟨rfl, hb⟩
    rw [H1.out]
    have I1 := Lib.hid (I0.out.on hb)
    have c0 := I1.out.box.cell 0
    have c1 := I1.out.box.cell 1
    simp at c0 c1
    clear hb
    go_wp2_with fail
    refine (sgk_is H2.out (HE.out.below I1.out.fin) HP.out HS.out).mono ?_
    rintro e w2 ⟨rfl, hb⟩
    have I2 := Lib.hid (I1.out.on hb)
    clear hb c0 c1
    have c1 := I2.out.box.cell 1
    simp at c1
    have hl0 : (l.length : Int) = 4 := by have := HL4.out; omega
    have hkn : r < l.length := by have := HL4.out; omega
    obtain ⟨A, rfl, hc⟩ := HCA.out _ I2.out.fin (r) (by omega)
    obtain ⟨G, rfl, hcg⟩ := HCG.out _ I2.out.fin
    rw [HE0.out] at hcg
    go_wp2
    go_ret
    exact ⟨rfl, I2.out.fin⟩
  · have hb1 : hasB es 1 = false := by rw [HOF.out]; simp [he]
    have hq : (nth es 0 == 1) = false := beq_eq_false_iff_ne.2 he
    clear he
    have HK := Lib.hid (show knd es = 2 + r by unfold knd; rw [hr, hb1]; show r + 2 = 2 + r; omega)
    clear hr hb1 HOF
    rw [HX.out, HK.out]
    go_enter Try.func13, Try.ntmps13
    go_wp2_with fail
    refine (sgar_any _ l _ (HA.out.below I0.out.fin)).mono ?_
    rintro e w1 ⟨rfl, hb⟩
    rw [H1.out]
    have I1 := Lib.hid (I0.out.on hb)
    have c0 := I1.out.box.cell 0
    have c1 := I1.out.box.cell 1
    simp at c0 c1
    clear hb
    go_wp2_with fail
    refine (sgk_is H2.out (HE.out.below I1.out.fin) HP.out HS.out).mono ?_
    rintro e w2 ⟨rfl, hb⟩
    have I2 := Lib.hid (I1.out.on hb)
    clear hb c0 c1
    have c1 := I2.out.box.cell 1
    simp at c1
    have hl0 : (l.length : Int) = 4 := by have := HL4.out; omega
    have hkn : 2 + r < l.length := by have := HL4.out; omega
    obtain ⟨A, rfl, hc⟩ := HCA.out _ I2.out.fin (2 + r) (by omega)
    obtain ⟨G, rfl, hcg⟩ := HCG.out _ I2.out.fin
    go_wp2
    go_ret
    exact ⟨rfl, I2.out.fin⟩
end Go.Proofs.Ytlcegpmhlnilfaa
