/- GphS, GphT, GphM, OrdS, BtwS, BtsS, TokS, TmdS, TofS, in one text. -/
import Derived.Test.YtlcegpmhlnilfaaBGr
import Derived.Test.YtlcegpmhlnilfaaBLot
import Derived.Test.YtlcegpmhlnilfaaAllS
import Derived.Test.YtlcegpmhlnilfaaBReg
import Derived.Test.YtlcegpmhlnilfaaBSol
/- spec: OrderOk, GraphOk. -/
namespace Go.Proofs.Ytlcegpmhlnilfaa
open Go.RowKit

/-- What fits in an int. -/
def intIn (x : Int) : Prop := -9223372036854775808 ≤ x ∧ x ≤ 9223372036854775807
theorem w64_in {n : Int} (h0 : -9223372036854775808 ≤ n) (h1 : n ≤ 9223372036854775807) : wrap64 n = n := by unfold wrap64; omega
theorem below_drew' {w w' : World} {B : Nat} (h : Below B w w') : Below B w w'.drew := h.drew

/-- What the first k rounds of OrderOk have shown. -/
structure OdTo (o : List Int) (n k : Nat) : Prop where
  bd : ∀ j, j < k → 0 ≤ nth o j ∧ nth o j ≤ (n : Int) - 1
  inj : ∀ i j, i < j → j < k → nth o i ≠ nth o j

set_option maxHeartbeats 3200000 in
theorem sod_any (v : Value) (o : List Int) (m : Int) (w : World) (h : Ints w v o) : Calls Try.prog 64 #[v, .int .i64 m] w fun e w' => e = .returned (.bool (odB o m)) ∧ Below w.heap.size w w' := by
  obtain ⟨a, c, rfl, k1⟩ := h.opened
  have hm1 := k1.max
  have HC := Lib.hid (show ∀ k, k < o.length → ∃ G, a = some ⟨G, 0, none⟩ ∧ ∀ w', Below w.heap.size w w' → w'.cell? ⟨G, k, none⟩ = some (.int .i64 (nth o k)) from fun k hk => by
    obtain ⟨G, e1, hl, e2⟩ := k1.get k hk
    exact ⟨G, e1, fun w' hb => (hb.cell (p := ⟨G, k, none⟩) hl).trans e2⟩)
  obtain ⟨n, hn⟩ : ∃ n, o.length = n := ⟨_, rfl⟩
  have HN := Lib.hid (show ∀ p : Prop, (Od o m → p) → ¬ p → odB o m = false from fun p h1 h2 => odB_false fun hc => h2 (h1 hc))
  have HY := Lib.hid (show (n : Int) = m → 1 ≤ m → m ≤ 5 → OdTo o n n → odB o m = true from by
    subst hn
    intro h1 h2 h3 h4
    exact odB_true.2 ⟨h1, h2, h3, fun j hj => by have := h4.bd j hj; omega, fun i j hij hj => h4.inj i j hij hj⟩)
  have H1 := Lib.hid (show Od o m → (n : Int) = m from fun h => by rw [← hn]; exact h.len)
  have H2 := Lib.hid (show Od o m → 1 ≤ m ∧ m ≤ 5 from fun h => ⟨h.m1, h.m5⟩)
  have H3 := Lib.hid (show Od o m → ∀ k, k < n → 0 ≤ nth o k ∧ nth o k ≤ (n : Int) - 1 from fun h k hk => by have := h.bd k (by omega); have := h.len; omega)
  have H4 := Lib.hid (show Od o m → ∀ i j, i < j → j < n → nth o i ≠ nth o j from fun h i j hij hj => h.inj i j hij (by omega))
  rw [hn] at hm1 HC ⊢
  unfold maxLen at hm1
  clear h k1 hn
  go_enter Try.func64, Try.ntmps64
  go_wp2
  go_loopw [5] (fun i wr => ∃ k : Nat, k ≤ n ∧ i = .int .i64 k ∧ Hid (OdTo o n k) ∧ Hid (Below w.heap.size w wr)) (fun i _ => n - (intOf i).toNat)
  case atStart => exact ⟨0, by omega, rfl, Lib.hid ⟨fun j hj => by omega, fun i j _ hj => by omega⟩, Lib.hid (Below.refl _ _)⟩
  case round =>
    obtain ⟨k, hk, rfl, hO, hB⟩ := hrel
    obtain ⟨wo, rfl⟩ : ∃ wo : World, wo = wr := ⟨_, rfl⟩
    by_cases hlt : k < n
    · obtain ⟨G, rfl, hck⟩ := HC.out k hlt
      obtain ⟨x, hx⟩ : ∃ x, nth o k = x := ⟨_, rfl⟩
      have HXK := Lib.hid hx
      rw [hx] at hck
      have HCK := Lib.hid hck
      have c1 := hck _ hB.out
      have hlt1 : (k : Int) < (n : Int) := by omega
      clear hx hck
      by_cases hin : 0 ≤ x ∧ x ≤ (n : Int) - 1
      case neg =>
        have HX := Lib.hid (HN.out _ H3.out (fun h => hin (by rw [← HXK.out]; exact h k hlt)))
        have hd : (decide (0 ≤ x) && decide (x ≤ (n : Int) - 1)) = false := by simp; omega
        clear hin
        go_wp2_with fail
        refine (l1In_tb hd _).mono ?_
        rintro e w2 ⟨rfl, rfl⟩
        clear hd c1
        go_wp2
        go_ret
        exact ⟨by rw [HX.out]; rfl, hB.out⟩
      have hd : (decide (0 ≤ x) && decide (x ≤ (n : Int) - 1)) = true := by simp; omega
      go_wp2_with fail
      refine (l1In_tb hd _).mono ?_
      rintro e w2 ⟨rfl, rfl⟩
      have HIN := Lib.hid hin
      clear hd c1 hin
      go_wp2
      go_loopw [6] (fun i wi => ∃ j : Nat, j ≤ k ∧ i = .int .i64 j ∧ Hid (∀ i, i < j → nth o i ≠ x) ∧ Hid (Below w.heap.size w wi)) (fun i _ => k - (intOf i).toNat)
      case atStart => exact ⟨0, by omega, rfl, Lib.hid (fun i hi => by omega), hB⟩
      case round =>
        obtain ⟨j, hjl, rfl, hjj, hI⟩ := hrel
        obtain ⟨wi, rfl⟩ : ∃ wi : World, wi = wr := ⟨_, rfl⟩
        by_cases hlj : j < k
        · obtain ⟨G', eG, hcj⟩ := HC.out j (by omega)
          obtain rfl : G = G' := by cases eG; rfl
          obtain ⟨y, hy⟩ : ∃ y, nth o j = y := ⟨_, rfl⟩
          have HYJ := Lib.hid hy
          rw [hy] at hcj
          have HCJ := Lib.hid hcj
          have hjn : (j : Int) < (n : Int) := by omega
          have hjk : (j : Int) < (k : Int) := by omega
          have HD : Hid (Below w.heap.size w wi.drew) := Lib.hid hI.out.drew
          clear hy hcj eG
          by_cases hxy : y = x
          · have hd : (y == x) = true := by simp [hxy]
            have HX := Lib.hid (HN.out _ H4.out (fun h => h j k hlj hlt (by rw [HYJ.out, HXK.out, hxy])))
            clear hxy
            go_wp2_with fail
            refine wp_region_cls (C := fun w' => Hid (Below w.heap.size w w')) (by kernel_rfl) (by kernel_rfl) HD ?_
            repeat (first | go_big_quiet_skip | (go_big_quiet_want; go_big_quiet_op; first | go_big_quiet_on | (refine ⟨_, fun _ _ => rfl, ?_⟩; go_big_quiet_on)))
            go_big_quiet_want
            go_big_quiet_op
            refine ⟨.int .i64 y, fun w' hw' => ?_, ?_⟩
            · have q := HCJ.out w' hw'.out
              try simp at q
              simp [go_sem, q]
            go_big_quiet_on
            repeat (first | go_big_quiet_skip | (go_big_quiet_want; go_big_quiet_op; first | go_big_quiet_on | (refine ⟨_, fun _ _ => rfl, ?_⟩; go_big_quiet_on)))
            go_big_quiet_want
            go_big_quiet_op
            refine ⟨.int .i64 x, fun w' hw' => ?_, ?_⟩
            · have q := HCK.out w' hw'.out
              try simp at q
              simp [go_sem, q]
            go_big_quiet_on
            repeat (first | go_big_quiet_skip | (go_big_quiet_want; go_big_quiet_op; first | go_big_quiet_on | (refine ⟨_, fun _ _ => rfl, ?_⟩; go_big_quiet_on)))
            refine wpQuiet_nil ?_
            intro w3 hw3
            clear hd HD
            go_wp2
            go_ret
            exact ⟨by rw [HX.out]; rfl, hw3.out⟩
          · have hd : (y == x) = false := by simp [hxy]
            have HJ : Hid (∀ i, i < j + 1 → nth o i ≠ x) := Lib.hid (fun i hi => by
              by_cases e : i < j
              · exact hjj.out i e
              · obtain rfl : i = j := by omega
                rw [HYJ.out]; exact hxy)
            clear hxy
            go_wp2_with fail
            refine wp_region_cls (C := fun w' => Hid (Below w.heap.size w w')) (by kernel_rfl) (by kernel_rfl) HD ?_
            repeat (first | go_big_quiet_skip | (go_big_quiet_want; go_big_quiet_op; first | go_big_quiet_on | (refine ⟨_, fun _ _ => rfl, ?_⟩; go_big_quiet_on)))
            go_big_quiet_want
            go_big_quiet_op
            refine ⟨.int .i64 y, fun w' hw' => ?_, ?_⟩
            · have q := HCJ.out w' hw'.out
              try simp at q
              simp [go_sem, q]
            go_big_quiet_on
            repeat (first | go_big_quiet_skip | (go_big_quiet_want; go_big_quiet_op; first | go_big_quiet_on | (refine ⟨_, fun _ _ => rfl, ?_⟩; go_big_quiet_on)))
            go_big_quiet_want
            go_big_quiet_op
            refine ⟨.int .i64 x, fun w' hw' => ?_, ?_⟩
            · have q := HCK.out w' hw'.out
              try simp at q
              simp [go_sem, q]
            go_big_quiet_on
            repeat (first | go_big_quiet_skip | (go_big_quiet_want; go_big_quiet_op; first | go_big_quiet_on | (refine ⟨_, fun _ _ => rfl, ?_⟩; go_big_quiet_on)))
            refine wpQuiet_nil ?_
            intro w3 hw3
            clear hd HD
            go_wp2
            go_roundw
            case rel => exact ⟨j + 1, by omega, by go_num, HJ, hw3⟩
            case measure => simp [intOf]; omega
        · obtain rfl : j = k := by omega
          have HJ : Hid (OdTo o n (j + 1)) := Lib.hid ⟨fun i hi => by
            by_cases e : i < j
            · exact hO.out.bd i e
            · obtain rfl : i = j := by omega
              rw [HXK.out]; exact HIN.out, fun i i' hii hi => by
            by_cases e : i' < j
            · exact hO.out.inj i i' hii e
            · obtain rfl : i' = j := by omega
              rw [HXK.out]; exact hjj.out i hii⟩
          go_wp2
          go_roundw
          case rel => exact ⟨j + 1, by omega, by go_num, HJ, hI⟩
          case measure => simp [intOf]; omega
    · obtain rfl : k = n := by omega
      by_cases hm : (k : Int) = m
      · subst hm
        have hd0 : ((k : Int) == (k : Int)) = true := by simp
        by_cases h5 : 1 ≤ (k : Int) ∧ (k : Int) ≤ 5
        · have HX := Lib.hid (HY.out rfl h5.1 h5.2 hO.out)
          have hd : (decide (1 ≤ (k : Int)) && decide ((k : Int) ≤ 5)) = true := by simp; omega
          clear h5
          go_wp2_with fail
          refine (l1In_tb hd _).mono ?_
          rintro e w2 ⟨rfl, rfl⟩
          go_wp2
          go_ret
          exact ⟨by rw [HX.out]; rfl, hB.out⟩
        · have HX := Lib.hid (HN.out _ H2.out h5)
          have hd : (decide (1 ≤ (k : Int)) && decide ((k : Int) ≤ 5)) = false := by simp; omega
          clear h5
          go_wp2_with fail
          refine (l1In_tb hd _).mono ?_
          rintro e w2 ⟨rfl, rfl⟩
          go_wp2
          go_ret
          exact ⟨by rw [HX.out]; rfl, hB.out⟩
      · have HX := Lib.hid (HN.out _ H1.out hm)
        have hd0 : ((k : Int) == m) = false := by simp [hm]
        clear hm
        go_wp2
        go_ret
        exact ⟨by rw [HX.out]; rfl, hB.out⟩

/-- What the first k rounds of GraphOk have shown. -/
structure GkTo (p : Int) (es : List Int) (k : Nat) : Prop where
  ed : ∀ j, j < k → 1 ≤ p → Ed p (nth es j)
  asc : ∀ j, j + 1 < k → nth es j < nth es (j + 1)

set_option maxHeartbeats 6400000 in
theorem sgk_any (p : Int) (v : Value) (es : List Int) (w : World) (h : Ints w v es) (hp : intIn p) (hs : ∀ j, j < es.length → intIn (nth es j)) : Calls Try.prog 38 #[.agg #[.int .i64 p, v]] w fun e w' => e = .returned (.bool (gkB p es)) ∧ Below w.heap.size w w' := by
  obtain ⟨a, c, rfl, k1⟩ := h.opened
  have hm1 := k1.max
  have HC := Lib.hid (show ∀ k, k < es.length → ∃ G, a = some ⟨G, 0, none⟩ ∧ ∀ w', Below w.heap.size w w' → w'.cell? ⟨G, k, none⟩ = some (.int .i64 (nth es k)) from fun k hk => by
    obtain ⟨G, e1, hl, e2⟩ := k1.get k hk
    exact ⟨G, e1, fun w' hb => (hb.cell (p := ⟨G, k, none⟩) hl).trans e2⟩)
  obtain ⟨n, hn⟩ : ∃ n, es.length = n := ⟨_, rfl⟩
  have HN := Lib.hid (show ∀ q : Prop, (Gk p es → q) → ¬ q → gkB p es = false from fun q h1 h2 => gkB_false fun hc => h2 (h1 hc))
  have HY := Lib.hid (show 1 ≤ p → p ≤ 5 → GkTo p es n → gkB p es = true from by
    subst hn
    intro h2 h3 h4
    exact gkB_true.2 ⟨h2, h3, fun j hj => h4.ed j hj h2, asc_next.2 h4.asc⟩)
  have H2 := Lib.hid (show Gk p es → 1 ≤ p ∧ p ≤ 5 from fun h => ⟨h.p1, h.p5⟩)
  have H3 := Lib.hid (show Gk p es → ∀ k, k < n → Ed p (nth es k) from fun h k hk => h.ed k (by omega))
  have H4 := Lib.hid (show Gk p es → ∀ k, k + 1 < n → nth es k < nth es (k + 1) from fun h k hk => asc_next.1 h.asc k (by omega))
  have HS := Lib.hid (show ∀ k, k < n → intIn (nth es k) from fun k hk => hs k (by omega))
  rw [hn] at hm1 HC ⊢
  unfold maxLen at hm1
  obtain ⟨hp1, hp2⟩ := hp
  obtain ⟨P1, qP⟩ : ∃ P1, wrap64 (p - 1) = P1 := ⟨_, rfl⟩
  have HP1 := Lib.hid (show 1 ≤ p → P1 = p - 1 from fun h => by rw [← qP]; exact w64_in (by omega) (by omega))
  have HP2 := Lib.hid (show Gk p es → P1 = p - 1 from fun h => by have := h.p1; rw [← qP]; exact w64_in (by omega) (by omega))
  clear h k1 hn hs
  have I0 := Lib.hid (InB.start w [.int .i64 p, .slice a n c] 30)
  go_enter Try.func38, Try.ntmps38
  go_wp2
  go_loopw [3] (fun i wr => ∃ k : Nat, k ≤ n ∧ i = .int .i64 k ∧ Hid (GkTo p es k) ∧ Hid (InB w [.int .i64 p, .slice a n c] 30 wr)) (fun i _ => n - (intOf i).toNat)
  case atStart => exact ⟨0, by omega, rfl, Lib.hid ⟨fun j hj => by omega, fun j hj => by omega⟩, I0⟩
  case round =>
    obtain ⟨k, hk, rfl, hO, hI⟩ := hrel
    obtain ⟨wo, rfl⟩ : ∃ wo : World, wo = wr := ⟨_, rfl⟩
    clear I0
    have b0 := hI.out.box.cell 0
    have b1 := hI.out.box.cell 1
    simp at b0 b1
    by_cases hlt : k < n
    · obtain ⟨G, rfl, hck⟩ := HC.out k hlt
      obtain ⟨x, hx⟩ : ∃ x, nth es k = x := ⟨_, rfl⟩
      have HXK := Lib.hid hx
      obtain ⟨x1, x2⟩ := HS.out k hlt
      rw [hx] at hck x1 x2
      have HCK := Lib.hid (show ∀ w', InB w [.int .i64 p, .slice (some ⟨G, 0, none⟩) n c] 30 w' → w'.cell? ⟨G, k, none⟩ = some (.int .i64 x) from fun w' h => hck w' h.fin)
      obtain ⟨A, hA⟩ : ∃ A, x.tdiv 10 = A := ⟨_, rfl⟩
      obtain ⟨B, hB⟩ : ∃ B, x.tmod 10 = B := ⟨_, rfl⟩
      have t1 := ten_parts x
      have t2 := tmod_bd x 10 (by omega)
      rw [hA, hB] at t1
      rw [hB] at t2
      have HE := Lib.hid (show Ed p x ↔ (0 ≤ A ∧ A < B ∧ B < p) from by subst hA hB; exact ⟨fun h => ⟨h.a0, h.ab, h.bp⟩, fun h => ⟨h.1, h.2.1, h.2.2⟩⟩)
      have qA : IntKind.wrap .i64 (x.tdiv 10) = A := by rw [hA]; exact IntWalk.i64_in _ (by omega)
      have qB : wrap64 (B - 1) = B - 1 := w64_in (by omega) (by omega)
      have hlt1 : (k : Int) < (n : Int) := by omega
      have HD : Hid (InB w [.int .i64 p, .slice (some ⟨G, 0, none⟩) n c] 30 wo.drew) := Lib.hid (hI.out.on (Below.refl _ _).drew)
      clear hx hck t1 hA
      by_cases c1 : 0 ≤ A ∧ A ≤ B - 1
      case neg =>
        have HX := Lib.hid (HN.out _ H3.out (fun h => by have := HE.out.1 (by have := h k hlt; rwa [HXK.out] at this); omega))
        have h1 : (decide (0 ≤ A) && decide (A ≤ B - 1)) = false := by simp; omega
        clear c1
        go_wp2_with fail
        refine wp_region_cls (C := fun w' => Hid (InB w [.int .i64 p, .slice (some ⟨G, 0, none⟩) n c] 30 w')) (by kernel_rfl) (by kernel_rfl) HD ?_
        repeat (first | go_big_quiet_skip | (go_big_quiet_want; go_big_quiet_op; first | go_big_quiet_on | (refine ⟨_, fun _ _ => rfl, ?_⟩; go_big_quiet_on)))
        go_big_quiet_want
        go_big_quiet_op
        refine ⟨.slice (some ⟨G, 0, none⟩) n c, fun w' hw' => ?_, ?_⟩
        · have q := hw'.out.box.cell 1
          try simp at q
          simp [go_sem, q]
        go_big_quiet_on
        repeat (first | go_big_quiet_skip | (go_big_quiet_want; go_big_quiet_op; first | go_big_quiet_on | (refine ⟨_, fun _ _ => rfl, ?_⟩; go_big_quiet_on)))
        go_big_quiet_want
        go_big_quiet_op
        refine ⟨.int .i64 x, fun w' hw' => ?_, ?_⟩
        · have q := HCK.out w' hw'.out
          try simp at q
          simp [go_sem, q]
        go_big_quiet_on
        repeat (first | go_big_quiet_skip | (go_big_quiet_want; go_big_quiet_op; first | go_big_quiet_on | (refine ⟨_, fun _ _ => rfl, ?_⟩; go_big_quiet_on)))
        go_big_quiet_want
        go_big_quiet_op
        refine ⟨.slice (some ⟨G, 0, none⟩) n c, fun w' hw' => ?_, ?_⟩
        · have q := hw'.out.box.cell 1
          try simp at q
          simp [go_sem, q]
        go_big_quiet_on
        repeat (first | go_big_quiet_skip | (go_big_quiet_want; go_big_quiet_op; first | go_big_quiet_on | (refine ⟨_, fun _ _ => rfl, ?_⟩; go_big_quiet_on)))
        go_big_quiet_want
        go_big_quiet_op
        refine ⟨.int .i64 x, fun w' hw' => ?_, ?_⟩
        · have q := HCK.out w' hw'.out
          try simp at q
          simp [go_sem, q]
        go_big_quiet_on
        repeat (first | go_big_quiet_skip | (go_big_quiet_want; go_big_quiet_op; first | go_big_quiet_on | (refine ⟨_, fun _ _ => rfl, ?_⟩; go_big_quiet_on)))
        go_big_quiet_want
        go_big_quiet_op
        go_big_quiet_call ((intro hw; exact (l1In_tb h1 _).mono fun _ _ ⟨he, hb⟩ => ⟨he, by rw [← hb]; exact hw⟩))
        repeat (first | go_big_quiet_skip | (go_big_quiet_want; go_big_quiet_op; first | go_big_quiet_on | (refine ⟨_, fun _ _ => rfl, ?_⟩; go_big_quiet_on)))
        refine wpQuiet_nil ?_
        intro w3 hw3
        clear h1
        clear b0 b1 HD
        go_wp2
        go_ret
        exact ⟨by rw [HX.out]; rfl, hw3.out.fin⟩
      have h1 : (decide (0 ≤ A) && decide (A ≤ B - 1)) = true := by simp; omega
      by_cases c2 : 1 ≤ B ∧ B ≤ P1
      case neg =>
        have HX := Lib.hid (HN.out _ (fun h => And.intro (H3.out h k hlt) (HP2.out h)) (fun h => by have := HE.out.1 (by have := h.1; rwa [HXK.out] at this); have := h.2; omega))
        have h2 : (decide (1 ≤ B) && decide (B ≤ P1)) = false := by simp; omega
        clear c1 c2
        go_wp2_with fail
        refine wp_region_cls (C := fun w' => Hid (InB w [.int .i64 p, .slice (some ⟨G, 0, none⟩) n c] 30 w')) (by kernel_rfl) (by kernel_rfl) HD ?_
        repeat (first | go_big_quiet_skip | (go_big_quiet_want; go_big_quiet_op; first | go_big_quiet_on | (refine ⟨_, fun _ _ => rfl, ?_⟩; go_big_quiet_on)))
        go_big_quiet_want
        go_big_quiet_op
        refine ⟨.slice (some ⟨G, 0, none⟩) n c, fun w' hw' => ?_, ?_⟩
        · have q := hw'.out.box.cell 1
          try simp at q
          simp [go_sem, q]
        go_big_quiet_on
        repeat (first | go_big_quiet_skip | (go_big_quiet_want; go_big_quiet_op; first | go_big_quiet_on | (refine ⟨_, fun _ _ => rfl, ?_⟩; go_big_quiet_on)))
        go_big_quiet_want
        go_big_quiet_op
        refine ⟨.int .i64 x, fun w' hw' => ?_, ?_⟩
        · have q := HCK.out w' hw'.out
          try simp at q
          simp [go_sem, q]
        go_big_quiet_on
        repeat (first | go_big_quiet_skip | (go_big_quiet_want; go_big_quiet_op; first | go_big_quiet_on | (refine ⟨_, fun _ _ => rfl, ?_⟩; go_big_quiet_on)))
        go_big_quiet_want
        go_big_quiet_op
        refine ⟨.slice (some ⟨G, 0, none⟩) n c, fun w' hw' => ?_, ?_⟩
        · have q := hw'.out.box.cell 1
          try simp at q
          simp [go_sem, q]
        go_big_quiet_on
        repeat (first | go_big_quiet_skip | (go_big_quiet_want; go_big_quiet_op; first | go_big_quiet_on | (refine ⟨_, fun _ _ => rfl, ?_⟩; go_big_quiet_on)))
        go_big_quiet_want
        go_big_quiet_op
        refine ⟨.int .i64 x, fun w' hw' => ?_, ?_⟩
        · have q := HCK.out w' hw'.out
          try simp at q
          simp [go_sem, q]
        go_big_quiet_on
        repeat (first | go_big_quiet_skip | (go_big_quiet_want; go_big_quiet_op; first | go_big_quiet_on | (refine ⟨_, fun _ _ => rfl, ?_⟩; go_big_quiet_on)))
        go_big_quiet_want
        go_big_quiet_op
        go_big_quiet_call ((intro hw; exact (l1In_tb h1 _).mono fun _ _ ⟨he, hb⟩ => ⟨he, by rw [← hb]; exact hw⟩))
        repeat (first | go_big_quiet_skip | (go_big_quiet_want; go_big_quiet_op; first | go_big_quiet_on | (refine ⟨_, fun _ _ => rfl, ?_⟩; go_big_quiet_on)))
        go_big_quiet_want
        go_big_quiet_op
        refine ⟨.slice (some ⟨G, 0, none⟩) n c, fun w' hw' => ?_, ?_⟩
        · have q := hw'.out.box.cell 1
          try simp at q
          simp [go_sem, q]
        go_big_quiet_on
        repeat (first | go_big_quiet_skip | (go_big_quiet_want; go_big_quiet_op; first | go_big_quiet_on | (refine ⟨_, fun _ _ => rfl, ?_⟩; go_big_quiet_on)))
        go_big_quiet_want
        go_big_quiet_op
        refine ⟨.int .i64 x, fun w' hw' => ?_, ?_⟩
        · have q := HCK.out w' hw'.out
          try simp at q
          simp [go_sem, q]
        go_big_quiet_on
        repeat (first | go_big_quiet_skip | (go_big_quiet_want; go_big_quiet_op; first | go_big_quiet_on | (refine ⟨_, fun _ _ => rfl, ?_⟩; go_big_quiet_on)))
        go_big_quiet_want
        go_big_quiet_op
        refine ⟨.int .i64 p, fun w' hw' => ?_, ?_⟩
        · have q := hw'.out.box.cell 0
          try simp at q
          simp [go_sem, q]
        go_big_quiet_on
        repeat (first | go_big_quiet_skip | (go_big_quiet_want; go_big_quiet_op; first | go_big_quiet_on | (refine ⟨_, fun _ _ => rfl, ?_⟩; go_big_quiet_on)))
        go_big_quiet_want
        go_big_quiet_op
        go_big_quiet_call ((intro hw; exact (l1In_tb h2 _).mono fun _ _ ⟨he, hb⟩ => ⟨he, by rw [← hb]; exact hw⟩))
        repeat (first | go_big_quiet_skip | (go_big_quiet_want; go_big_quiet_op; first | go_big_quiet_on | (refine ⟨_, fun _ _ => rfl, ?_⟩; go_big_quiet_on)))
        refine wpQuiet_nil ?_
        intro w3 hw3
        clear h1 h2
        clear b0 b1 HD
        go_wp2
        go_ret
        exact ⟨by rw [HX.out]; rfl, hw3.out.fin⟩
      have h2 : (decide (1 ≤ B) && decide (B ≤ P1)) = true := by simp; omega
      have HED := Lib.hid (fun (h1 : 1 ≤ p) => HE.out.2 ⟨c1.1, by omega, by have := HP1.out h1; omega⟩)
      clear c1 c2
      by_cases hk0 : k = 0
      · have d1 : decide ((0 : Int) < (k : Int)) = false := decide_eq_false (by omega)
        have d2 : decide (0 < k) = false := decide_eq_false (by omega)
        have HJ : Hid (GkTo p es (k + 1)) := Lib.hid ⟨fun j hj => by
          obtain rfl : j = k := by omega
          rw [HXK.out]; exact HED.out, fun j hj => by omega⟩
        clear hk0
        go_wp2_with fail
        refine wp_region_cls (C := fun w' => Hid (InB w [.int .i64 p, .slice (some ⟨G, 0, none⟩) n c] 30 w')) (by kernel_rfl) (by kernel_rfl) HD ?_
        repeat (first | go_big_quiet_skip | (go_big_quiet_want; go_big_quiet_op; first | go_big_quiet_on | (refine ⟨_, fun _ _ => rfl, ?_⟩; go_big_quiet_on)))
        go_big_quiet_want
        go_big_quiet_op
        refine ⟨.slice (some ⟨G, 0, none⟩) n c, fun w' hw' => ?_, ?_⟩
        · have q := hw'.out.box.cell 1
          try simp at q
          simp [go_sem, q]
        go_big_quiet_on
        repeat (first | go_big_quiet_skip | (go_big_quiet_want; go_big_quiet_op; first | go_big_quiet_on | (refine ⟨_, fun _ _ => rfl, ?_⟩; go_big_quiet_on)))
        go_big_quiet_want
        go_big_quiet_op
        refine ⟨.int .i64 x, fun w' hw' => ?_, ?_⟩
        · have q := HCK.out w' hw'.out
          try simp at q
          simp [go_sem, q]
        go_big_quiet_on
        repeat (first | go_big_quiet_skip | (go_big_quiet_want; go_big_quiet_op; first | go_big_quiet_on | (refine ⟨_, fun _ _ => rfl, ?_⟩; go_big_quiet_on)))
        go_big_quiet_want
        go_big_quiet_op
        refine ⟨.slice (some ⟨G, 0, none⟩) n c, fun w' hw' => ?_, ?_⟩
        · have q := hw'.out.box.cell 1
          try simp at q
          simp [go_sem, q]
        go_big_quiet_on
        repeat (first | go_big_quiet_skip | (go_big_quiet_want; go_big_quiet_op; first | go_big_quiet_on | (refine ⟨_, fun _ _ => rfl, ?_⟩; go_big_quiet_on)))
        go_big_quiet_want
        go_big_quiet_op
        refine ⟨.int .i64 x, fun w' hw' => ?_, ?_⟩
        · have q := HCK.out w' hw'.out
          try simp at q
          simp [go_sem, q]
        go_big_quiet_on
        repeat (first | go_big_quiet_skip | (go_big_quiet_want; go_big_quiet_op; first | go_big_quiet_on | (refine ⟨_, fun _ _ => rfl, ?_⟩; go_big_quiet_on)))
        go_big_quiet_want
        go_big_quiet_op
        go_big_quiet_call ((intro hw; exact (l1In_tb h1 _).mono fun _ _ ⟨he, hb⟩ => ⟨he, by rw [← hb]; exact hw⟩))
        repeat (first | go_big_quiet_skip | (go_big_quiet_want; go_big_quiet_op; first | go_big_quiet_on | (refine ⟨_, fun _ _ => rfl, ?_⟩; go_big_quiet_on)))
        go_big_quiet_want
        go_big_quiet_op
        refine ⟨.slice (some ⟨G, 0, none⟩) n c, fun w' hw' => ?_, ?_⟩
        · have q := hw'.out.box.cell 1
          try simp at q
          simp [go_sem, q]
        go_big_quiet_on
        repeat (first | go_big_quiet_skip | (go_big_quiet_want; go_big_quiet_op; first | go_big_quiet_on | (refine ⟨_, fun _ _ => rfl, ?_⟩; go_big_quiet_on)))
        go_big_quiet_want
        go_big_quiet_op
        refine ⟨.int .i64 x, fun w' hw' => ?_, ?_⟩
        · have q := HCK.out w' hw'.out
          try simp at q
          simp [go_sem, q]
        go_big_quiet_on
        repeat (first | go_big_quiet_skip | (go_big_quiet_want; go_big_quiet_op; first | go_big_quiet_on | (refine ⟨_, fun _ _ => rfl, ?_⟩; go_big_quiet_on)))
        go_big_quiet_want
        go_big_quiet_op
        refine ⟨.int .i64 p, fun w' hw' => ?_, ?_⟩
        · have q := hw'.out.box.cell 0
          try simp at q
          simp [go_sem, q]
        go_big_quiet_on
        repeat (first | go_big_quiet_skip | (go_big_quiet_want; go_big_quiet_op; first | go_big_quiet_on | (refine ⟨_, fun _ _ => rfl, ?_⟩; go_big_quiet_on)))
        go_big_quiet_want
        go_big_quiet_op
        go_big_quiet_call ((intro hw; exact (l1In_tb h2 _).mono fun _ _ ⟨he, hb⟩ => ⟨he, by rw [← hb]; exact hw⟩))
        repeat (first | go_big_quiet_skip | (go_big_quiet_want; go_big_quiet_op; first | go_big_quiet_on | (refine ⟨_, fun _ _ => rfl, ?_⟩; go_big_quiet_on)))
        refine wpQuiet_nil ?_
        intro w3 hw3
        clear h1 h2 b0 b1 HD d1 d2
        go_wp2
        go_roundw
        case rel => exact ⟨k + 1, by omega, by go_num, HJ, hw3⟩
        case measure => simp [intOf]; omega
      · obtain ⟨q, rfl⟩ : ∃ q, k = q + 1 := ⟨k - 1, by omega⟩
        obtain ⟨G', eG, hcq⟩ := HC.out q (by omega)
        obtain rfl : G = G' := by cases eG; rfl
        obtain ⟨y, hy⟩ : ∃ y, nth es q = y := ⟨_, rfl⟩
        have HYQ := Lib.hid hy
        rw [hy] at hcq
        have HCQ := Lib.hid (show ∀ w', InB w [.int .i64 p, .slice (some ⟨G, 0, none⟩) n c] 30 w' → w'.cell? ⟨G, q, none⟩ = some (.int .i64 y) from fun w' h => hcq w' h.fin)
        have e1 : ((q + 1 : Nat) : Int) - 1 = (q : Int) := by omega
        have hqn : (q : Int) < (n : Int) := by omega
        have d1 : decide ((0 : Int) < ((q + 1 : Nat) : Int)) = true := decide_eq_true (by omega)
        have d2 : decide (0 < q + 1) = true := decide_eq_true (by omega)
        clear hy hcq eG hk0
        by_cases hxy : x ≤ y
        · have hd : decide (x ≤ y) = true := decide_eq_true hxy
          have HX := Lib.hid (HN.out _ H4.out (fun h => by have := h q hlt; rw [HXK.out, HYQ.out] at this; omega))
          clear hxy
          go_wp2_with fail
          refine wp_region_cls (C := fun w' => Hid (InB w [.int .i64 p, .slice (some ⟨G, 0, none⟩) n c] 30 w')) (by kernel_rfl) (by kernel_rfl) HD ?_
          repeat (first | go_big_quiet_skip | (go_big_quiet_want; go_big_quiet_op; first | go_big_quiet_on | (refine ⟨_, fun _ _ => rfl, ?_⟩; go_big_quiet_on)))
          go_big_quiet_want
          go_big_quiet_op
          refine ⟨.slice (some ⟨G, 0, none⟩) n c, fun w' hw' => ?_, ?_⟩
          · have q := hw'.out.box.cell 1
            try simp at q
            simp [go_sem, q]
          go_big_quiet_on
          repeat (first | go_big_quiet_skip | (go_big_quiet_want; go_big_quiet_op; first | go_big_quiet_on | (refine ⟨_, fun _ _ => rfl, ?_⟩; go_big_quiet_on)))
          go_big_quiet_want
          go_big_quiet_op
          refine ⟨.int .i64 x, fun w' hw' => ?_, ?_⟩
          · have q := HCK.out w' hw'.out
            try simp at q
            simp [go_sem, q]
          go_big_quiet_on
          repeat (first | go_big_quiet_skip | (go_big_quiet_want; go_big_quiet_op; first | go_big_quiet_on | (refine ⟨_, fun _ _ => rfl, ?_⟩; go_big_quiet_on)))
          go_big_quiet_want
          go_big_quiet_op
          refine ⟨.slice (some ⟨G, 0, none⟩) n c, fun w' hw' => ?_, ?_⟩
          · have q := hw'.out.box.cell 1
            try simp at q
            simp [go_sem, q]
          go_big_quiet_on
          repeat (first | go_big_quiet_skip | (go_big_quiet_want; go_big_quiet_op; first | go_big_quiet_on | (refine ⟨_, fun _ _ => rfl, ?_⟩; go_big_quiet_on)))
          go_big_quiet_want
          go_big_quiet_op
          refine ⟨.int .i64 x, fun w' hw' => ?_, ?_⟩
          · have q := HCK.out w' hw'.out
            try simp at q
            simp [go_sem, q]
          go_big_quiet_on
          repeat (first | go_big_quiet_skip | (go_big_quiet_want; go_big_quiet_op; first | go_big_quiet_on | (refine ⟨_, fun _ _ => rfl, ?_⟩; go_big_quiet_on)))
          go_big_quiet_want
          go_big_quiet_op
          go_big_quiet_call ((intro hw; exact (l1In_tb h1 _).mono fun _ _ ⟨he, hb⟩ => ⟨he, by rw [← hb]; exact hw⟩))
          repeat (first | go_big_quiet_skip | (go_big_quiet_want; go_big_quiet_op; first | go_big_quiet_on | (refine ⟨_, fun _ _ => rfl, ?_⟩; go_big_quiet_on)))
          go_big_quiet_want
          go_big_quiet_op
          refine ⟨.slice (some ⟨G, 0, none⟩) n c, fun w' hw' => ?_, ?_⟩
          · have q := hw'.out.box.cell 1
            try simp at q
            simp [go_sem, q]
          go_big_quiet_on
          repeat (first | go_big_quiet_skip | (go_big_quiet_want; go_big_quiet_op; first | go_big_quiet_on | (refine ⟨_, fun _ _ => rfl, ?_⟩; go_big_quiet_on)))
          go_big_quiet_want
          go_big_quiet_op
          refine ⟨.int .i64 x, fun w' hw' => ?_, ?_⟩
          · have q := HCK.out w' hw'.out
            try simp at q
            simp [go_sem, q]
          go_big_quiet_on
          repeat (first | go_big_quiet_skip | (go_big_quiet_want; go_big_quiet_op; first | go_big_quiet_on | (refine ⟨_, fun _ _ => rfl, ?_⟩; go_big_quiet_on)))
          go_big_quiet_want
          go_big_quiet_op
          refine ⟨.int .i64 p, fun w' hw' => ?_, ?_⟩
          · have q := hw'.out.box.cell 0
            try simp at q
            simp [go_sem, q]
          go_big_quiet_on
          repeat (first | go_big_quiet_skip | (go_big_quiet_want; go_big_quiet_op; first | go_big_quiet_on | (refine ⟨_, fun _ _ => rfl, ?_⟩; go_big_quiet_on)))
          go_big_quiet_want
          go_big_quiet_op
          go_big_quiet_call ((intro hw; exact (l1In_tb h2 _).mono fun _ _ ⟨he, hb⟩ => ⟨he, by rw [← hb]; exact hw⟩))
          repeat (first | go_big_quiet_skip | (go_big_quiet_want; go_big_quiet_op; first | go_big_quiet_on | (refine ⟨_, fun _ _ => rfl, ?_⟩; go_big_quiet_on)))
          go_big_quiet_want
          go_big_quiet_op
          refine ⟨.slice (some ⟨G, 0, none⟩) n c, fun w' hw' => ?_, ?_⟩
          · have q := hw'.out.box.cell 1
            try simp at q
            simp [go_sem, q]
          go_big_quiet_on
          repeat (first | go_big_quiet_skip | (go_big_quiet_want; go_big_quiet_op; first | go_big_quiet_on | (refine ⟨_, fun _ _ => rfl, ?_⟩; go_big_quiet_on)))
          go_big_quiet_want
          go_big_quiet_op
          refine ⟨.int .i64 x, fun w' hw' => ?_, ?_⟩
          · have q := HCK.out w' hw'.out
            try simp at q
            simp [go_sem, q]
          go_big_quiet_on
          repeat (first | go_big_quiet_skip | (go_big_quiet_want; go_big_quiet_op; first | go_big_quiet_on | (refine ⟨_, fun _ _ => rfl, ?_⟩; go_big_quiet_on)))
          go_big_quiet_want
          go_big_quiet_op
          refine ⟨.slice (some ⟨G, 0, none⟩) n c, fun w' hw' => ?_, ?_⟩
          · have q := hw'.out.box.cell 1
            try simp at q
            simp [go_sem, q]
          go_big_quiet_on
          repeat (first | go_big_quiet_skip | (go_big_quiet_want; go_big_quiet_op; first | go_big_quiet_on | (refine ⟨_, fun _ _ => rfl, ?_⟩; go_big_quiet_on)))
          go_big_quiet_want
          go_big_quiet_op
          refine ⟨.int .i64 y, fun w' hw' => ?_, ?_⟩
          · have q := HCQ.out w' hw'.out
            try simp at q
            simp [go_sem, q]
          go_big_quiet_on
          repeat (first | go_big_quiet_skip | (go_big_quiet_want; go_big_quiet_op; first | go_big_quiet_on | (refine ⟨_, fun _ _ => rfl, ?_⟩; go_big_quiet_on)))
          refine wpQuiet_nil ?_
          intro w3 hw3
          clear h1 h2 hd b0 b1 HD d1 d2 e1
          go_wp2
          go_ret
          exact ⟨by rw [HX.out]; rfl, hw3.out.fin⟩
        · have hd : decide (x ≤ y) = false := decide_eq_false hxy
          have HJ : Hid (GkTo p es (q + 1 + 1)) := Lib.hid ⟨fun j hj => by
            by_cases e : j < q + 1
            · exact hO.out.ed j e
            · obtain rfl : j = q + 1 := by omega
              rw [HXK.out]; exact HED.out, fun j hj => by
            by_cases e : j + 1 < q + 1
            · exact hO.out.asc j e
            · obtain rfl : j = q := by omega
              rw [HXK.out, HYQ.out]; omega⟩
          clear hxy
          go_wp2_with fail
          refine wp_region_cls (C := fun w' => Hid (InB w [.int .i64 p, .slice (some ⟨G, 0, none⟩) n c] 30 w')) (by kernel_rfl) (by kernel_rfl) HD ?_
          repeat (first | go_big_quiet_skip | (go_big_quiet_want; go_big_quiet_op; first | go_big_quiet_on | (refine ⟨_, fun _ _ => rfl, ?_⟩; go_big_quiet_on)))
          go_big_quiet_want
          go_big_quiet_op
          refine ⟨.slice (some ⟨G, 0, none⟩) n c, fun w' hw' => ?_, ?_⟩
          · have q := hw'.out.box.cell 1
            try simp at q
            simp [go_sem, q]
          go_big_quiet_on
          repeat (first | go_big_quiet_skip | (go_big_quiet_want; go_big_quiet_op; first | go_big_quiet_on | (refine ⟨_, fun _ _ => rfl, ?_⟩; go_big_quiet_on)))
          go_big_quiet_want
          go_big_quiet_op
          refine ⟨.int .i64 x, fun w' hw' => ?_, ?_⟩
          · have q := HCK.out w' hw'.out
            try simp at q
            simp [go_sem, q]
          go_big_quiet_on
          repeat (first | go_big_quiet_skip | (go_big_quiet_want; go_big_quiet_op; first | go_big_quiet_on | (refine ⟨_, fun _ _ => rfl, ?_⟩; go_big_quiet_on)))
          go_big_quiet_want
          go_big_quiet_op
          refine ⟨.slice (some ⟨G, 0, none⟩) n c, fun w' hw' => ?_, ?_⟩
          · have q := hw'.out.box.cell 1
            try simp at q
            simp [go_sem, q]
          go_big_quiet_on
          repeat (first | go_big_quiet_skip | (go_big_quiet_want; go_big_quiet_op; first | go_big_quiet_on | (refine ⟨_, fun _ _ => rfl, ?_⟩; go_big_quiet_on)))
          go_big_quiet_want
          go_big_quiet_op
          refine ⟨.int .i64 x, fun w' hw' => ?_, ?_⟩
          · have q := HCK.out w' hw'.out
            try simp at q
            simp [go_sem, q]
          go_big_quiet_on
          repeat (first | go_big_quiet_skip | (go_big_quiet_want; go_big_quiet_op; first | go_big_quiet_on | (refine ⟨_, fun _ _ => rfl, ?_⟩; go_big_quiet_on)))
          go_big_quiet_want
          go_big_quiet_op
          go_big_quiet_call ((intro hw; exact (l1In_tb h1 _).mono fun _ _ ⟨he, hb⟩ => ⟨he, by rw [← hb]; exact hw⟩))
          repeat (first | go_big_quiet_skip | (go_big_quiet_want; go_big_quiet_op; first | go_big_quiet_on | (refine ⟨_, fun _ _ => rfl, ?_⟩; go_big_quiet_on)))
          go_big_quiet_want
          go_big_quiet_op
          refine ⟨.slice (some ⟨G, 0, none⟩) n c, fun w' hw' => ?_, ?_⟩
          · have q := hw'.out.box.cell 1
            try simp at q
            simp [go_sem, q]
          go_big_quiet_on
          repeat (first | go_big_quiet_skip | (go_big_quiet_want; go_big_quiet_op; first | go_big_quiet_on | (refine ⟨_, fun _ _ => rfl, ?_⟩; go_big_quiet_on)))
          go_big_quiet_want
          go_big_quiet_op
          refine ⟨.int .i64 x, fun w' hw' => ?_, ?_⟩
          · have q := HCK.out w' hw'.out
            try simp at q
            simp [go_sem, q]
          go_big_quiet_on
          repeat (first | go_big_quiet_skip | (go_big_quiet_want; go_big_quiet_op; first | go_big_quiet_on | (refine ⟨_, fun _ _ => rfl, ?_⟩; go_big_quiet_on)))
          go_big_quiet_want
          go_big_quiet_op
          refine ⟨.int .i64 p, fun w' hw' => ?_, ?_⟩
          · have q := hw'.out.box.cell 0
            try simp at q
            simp [go_sem, q]
          go_big_quiet_on
          repeat (first | go_big_quiet_skip | (go_big_quiet_want; go_big_quiet_op; first | go_big_quiet_on | (refine ⟨_, fun _ _ => rfl, ?_⟩; go_big_quiet_on)))
          go_big_quiet_want
          go_big_quiet_op
          go_big_quiet_call ((intro hw; exact (l1In_tb h2 _).mono fun _ _ ⟨he, hb⟩ => ⟨he, by rw [← hb]; exact hw⟩))
          repeat (first | go_big_quiet_skip | (go_big_quiet_want; go_big_quiet_op; first | go_big_quiet_on | (refine ⟨_, fun _ _ => rfl, ?_⟩; go_big_quiet_on)))
          go_big_quiet_want
          go_big_quiet_op
          refine ⟨.slice (some ⟨G, 0, none⟩) n c, fun w' hw' => ?_, ?_⟩
          · have q := hw'.out.box.cell 1
            try simp at q
            simp [go_sem, q]
          go_big_quiet_on
          repeat (first | go_big_quiet_skip | (go_big_quiet_want; go_big_quiet_op; first | go_big_quiet_on | (refine ⟨_, fun _ _ => rfl, ?_⟩; go_big_quiet_on)))
          go_big_quiet_want
          go_big_quiet_op
          refine ⟨.int .i64 x, fun w' hw' => ?_, ?_⟩
          · have q := HCK.out w' hw'.out
            try simp at q
            simp [go_sem, q]
          go_big_quiet_on
          repeat (first | go_big_quiet_skip | (go_big_quiet_want; go_big_quiet_op; first | go_big_quiet_on | (refine ⟨_, fun _ _ => rfl, ?_⟩; go_big_quiet_on)))
          go_big_quiet_want
          go_big_quiet_op
          refine ⟨.slice (some ⟨G, 0, none⟩) n c, fun w' hw' => ?_, ?_⟩
          · have q := hw'.out.box.cell 1
            try simp at q
            simp [go_sem, q]
          go_big_quiet_on
          repeat (first | go_big_quiet_skip | (go_big_quiet_want; go_big_quiet_op; first | go_big_quiet_on | (refine ⟨_, fun _ _ => rfl, ?_⟩; go_big_quiet_on)))
          go_big_quiet_want
          go_big_quiet_op
          refine ⟨.int .i64 y, fun w' hw' => ?_, ?_⟩
          · have q := HCQ.out w' hw'.out
            try simp at q
            simp [go_sem, q]
          go_big_quiet_on
          repeat (first | go_big_quiet_skip | (go_big_quiet_want; go_big_quiet_op; first | go_big_quiet_on | (refine ⟨_, fun _ _ => rfl, ?_⟩; go_big_quiet_on)))
          refine wpQuiet_nil ?_
          intro w3 hw3
          clear h1 h2 hd b0 b1 HD d1 d2 e1
          go_wp2
          go_roundw
          case rel => exact ⟨q + 1 + 1, by omega, by go_num, HJ, hw3⟩
          case measure => simp [intOf]; omega
    · obtain rfl : k = n := by omega
      by_cases h5 : 1 ≤ p ∧ p ≤ 5
      · have HX := Lib.hid (HY.out h5.1 h5.2 hO.out)
        have hd : (decide (1 ≤ p) && decide (p ≤ 5)) = true := by simp; omega
        clear h5
        go_wp2_with fail
        refine (l1In_tb hd _).mono ?_
        rintro e w2 ⟨rfl, rfl⟩
        clear b0 b1
        go_wp2
        go_ret
        exact ⟨by rw [HX.out]; rfl, hI.out.fin⟩
      · have HX := Lib.hid (HN.out _ H2.out h5)
        have hd : (decide (1 ≤ p) && decide (p ≤ 5)) = false := by simp; omega
        clear h5
        go_wp2_with fail
        refine (l1In_tb hd _).mono ?_
        rintro e w2 ⟨rfl, rfl⟩
        clear b0 b1
        go_wp2
        go_ret
        exact ⟨by rw [HX.out]; rfl, hI.out.fin⟩
end Go.Proofs.Ytlcegpmhlnilfaa

/- spec: OrderThen, OrderBack, l7Moved, GraphMoved. -/
namespace Go.Proofs.Ytlcegpmhlnilfaa
open Go.RowKit

def thB (a b : List Int) : Bool := odB a a.length && odB b a.length
/-- OrderThen. -/
def thL (a b : List Int) : List Int := if thB a b then thn a b else []
theorem thL_yes {a b : List Int} (h : thB a b = true) : thL a b = thn a b := by simp [thL, h]
theorem thL_no {a b : List Int} (h : thB a b = false) : thL a b = [] := by simp [thL, h]
theorem thB_true {a b : List Int} : thB a b = true ↔ Od a a.length ∧ Od b a.length := by unfold thB; rw [Bool.and_eq_true, odB_true, odB_true]
/-- OrderBack. -/
def bkL (a : List Int) : List Int := if odB a a.length then bck a else []
theorem bkL_yes {a : List Int} (h : odB a a.length = true) : bkL a = bck a := by simp [bkL, h]
theorem bkL_no {a : List Int} (h : odB a a.length = false) : bkL a = [] := by simp [bkL, h]
theorem sod_is {v : Value} {o : List Int} {m : Int} {w : World} {r : Bool} (hr : odB o m = r) (h : Ints w v o) : Calls Try.prog 64 #[v, .int .i64 m] w fun e w' => e = .returned (.bool r) ∧ Below w.heap.size w w' := by rw [← hr]; exact sod_any v o m w h
theorem sgk_is {p : Int} {v : Value} {es : List Int} {w : World} {r : Bool} (hr : gkB p es = r) (h : Ints w v es) (hp : intIn p) (hs : ∀ j, j < es.length → intIn (nth es j)) : Calls Try.prog 38 #[.agg #[.int .i64 p, v]] w fun e w' => e = .returned (.bool r) ∧ Below w.heap.size w w' := by rw [← hr]; exact sgk_any p v es w h hp hs

theorem sthn_no (va vb : Value) (a b : List Int) (w : World) (h : Ints w va a) (h' : Ints w vb b) (hb : thB a b = false) : Calls Try.prog 66 #[va, vb] w fun e w' => ∃ v, e = .returned v ∧ Own w' w.heap.size v (thL a b) ∧ Below w.heap.size w w' := by
  have HA := Lib.hid (show ∀ w', Below w.heap.size w w' → Ints w' va a from fun w' hb => h.below hb)
  have HB := Lib.hid (show ∀ w', Below w.heap.size w w' → Ints w' vb b from fun w' hb => h'.below hb)
  have HX := Lib.hid (thL_no hb)
  obtain ⟨aa, ac, rfl, _⟩ := h.opened
  obtain ⟨n, hn⟩ : ∃ n, a.length = n := ⟨_, rfl⟩
  obtain ⟨ra, hra⟩ : ∃ r, odB a n = r := ⟨_, rfl⟩
  obtain ⟨rb, hrb⟩ : ∃ r, odB b n = r := ⟨_, rfl⟩
  have hab : ra = true → rb = false := fun e => by
    unfold thB at hb; rw [hn, hra, hrb, e] at hb; simpa using hb
  have O0 := Lib.hid (own_made' w)
  have B0 := Lib.hid (below_grow w (.cells #[] 3))
  have HRA := Lib.hid hra
  have HRB := Lib.hid hrb
  rw [hn] at HA ⊢
  clear h h' hb hn hra hrb
  go_enter Try.func66, Try.ntmps66
  go_wp2
  go_loopw [5, 6] (fun v i wr => i = .int .i64 0 ∧ Hid (Own wr w.heap.size v []) ∧ Hid (Below w.heap.size w wr)) (fun _ _ _ => 0)
  case atStart => exact ⟨rfl, O0, B0⟩
  case round =>
    obtain ⟨rfl, hO, hB⟩ := hrel
    obtain ⟨wo, rfl⟩ : ∃ wo : World, wo = wr := ⟨_, rfl⟩
    clear O0 B0
    by_cases hn0 : (0 : Int) < (n : Int)
    · go_wp2_with fail
      refine (sod_is HRA.out (HA.out _ hB.out)).mono ?_
      rintro e w1 ⟨rfl, hb⟩
      have B1 := Lib.hid (Below.on hB.out hb)
      have O1 := Lib.hid (own_below hO.out hb)
      clear hb
      cases ra
      · go_wp2
        go_ret
        exact ⟨_, rfl, by rw [HX.out]; exact O1.out, B1.out⟩
      · obtain rfl := hab rfl
        go_wp2_with fail
        refine (sod_is HRB.out (HB.out _ B1.out)).mono ?_
        rintro e w2 ⟨rfl, hb⟩
        have B2 := Lib.hid (Below.on B1.out hb)
        have O2 := Lib.hid (own_below O1.out hb)
        clear hb
        go_wp2
        go_ret
        exact ⟨_, rfl, by rw [HX.out]; exact O2.out, B2.out⟩
    · go_wp2
      go_ret
      exact ⟨_, rfl, by rw [HX.out]; exact hO.out, hB.out⟩

set_option maxHeartbeats 1600000 in
theorem sthn_yes (va vb : Value) (a b : List Int) (w : World) (h : Ints w va a) (h' : Ints w vb b) (hb : thB a b = true) : Calls Try.prog 66 #[va, vb] w fun e w' => ∃ v, e = .returned v ∧ Own w' w.heap.size v (thL a b) ∧ Below w.heap.size w w' := by
  have HA := Lib.hid (show ∀ w', Below w.heap.size w w' → Ints w' va a from fun w' hb => h.below hb)
  have HB := Lib.hid (show ∀ w', Below w.heap.size w w' → Ints w' vb b from fun w' hb => h'.below hb)
  obtain ⟨oa, ob⟩ := thB_true.1 hb
  obtain ⟨aa, ac, rfl, k1⟩ := h.opened
  obtain ⟨ba, bc, rfl, k2⟩ := h'.opened
  have hbl : b.length = a.length := by have := ob.len; omega
  have HC := Lib.hid (show ∀ k, k < a.length → ∃ G q H, aa = some ⟨G, 0, none⟩ ∧ (∀ w', Below w.heap.size w w' → w'.cell? ⟨G, k, none⟩ = some (.int .i64 ((q : Nat) : Int))) ∧ q < a.length ∧ ba = some ⟨H, 0, none⟩ ∧ ∀ w', Below w.heap.size w w' → w'.cell? ⟨H, q, none⟩ = some (.int .i64 (app b (nth a k))) from fun k hk => by
    obtain ⟨G, e1, hl, e2⟩ := k1.get k hk
    have hbd := oa.bd k hk
    have hal := oa.len
    obtain ⟨H, e3, hl', e4⟩ := k2.get (nth a k).toNat (by omega)
    exact ⟨G, (nth a k).toNat, H, e1, fun w' hb => by rw [show (((nth a k).toNat : Nat) : Int) = nth a k by omega]; exact (hb.cell (p := ⟨G, k, none⟩) hl).trans e2, by omega, e3, fun w' hb => (hb.cell (p := ⟨H, _, none⟩) hl').trans e4⟩)
  obtain ⟨TH, hTH⟩ : ∃ TH : Nat → List Int, TH = thenTo a b := ⟨_, rfl⟩
  have HTS := Lib.hid (show ∀ k, TH (k + 1) = TH k ++ [app b (nth a k)] from fun k => by rw [hTH]; rfl)
  have HTL := Lib.hid (show ∀ k, (TH k).length = k from fun k => by rw [hTH]; exact thenTo_len _ _ _)
  have HT0 := Lib.hid (show TH 0 = [] from by rw [hTH]; rfl)
  obtain ⟨n, hn⟩ : ∃ n, a.length = n := ⟨_, rfl⟩
  have HX := Lib.hid (show thL a b = TH n from by rw [thL_yes hb, hTH, ← hn]; rfl)
  have HRA := Lib.hid (show odB a n = true from by rw [← hn]; exact odB_true.2 oa)
  have HRB := Lib.hid (show odB b n = true from by rw [← hn]; exact odB_true.2 ob)
  have hn5 : n ≤ 5 := by have := oa.len; have := oa.m5; omega
  have O0 := Lib.hid (own_made' w)
  have B0 := Lib.hid (below_grow w (.cells #[] 3))
  rw [hbl, hn] at HB
  rw [hbl]
  rw [hn] at HA HC ⊢
  clear h h' hb hn oa ob k1 k2 hbl hTH
  go_enter Try.func66, Try.ntmps66
  go_wp2
  go_loopw [5, 6] (fun v i wr => ∃ k : Nat, k ≤ n ∧ i = .int .i64 k ∧ Hid (Own wr w.heap.size v (TH k)) ∧ Hid (Below w.heap.size w wr)) (fun _ i _ => n - (intOf i).toNat)
  case atStart => exact ⟨0, by omega, rfl, Lib.hid (by rw [HT0.out]; exact O0.out), B0⟩
  case round =>
    obtain ⟨k, hk, rfl, hO, hB⟩ := hrel
    obtain ⟨wo, rfl⟩ : ∃ wo : World, wo = wr := ⟨_, rfl⟩
    clear O0 B0
    by_cases hlt : k < n
    · obtain ⟨G, q, H, rfl, hc1, hq, rfl, hc2⟩ := HC.out k hlt
      have HC1 := Lib.hid hc1
      have HC2 := Lib.hid hc2
      have HS := Lib.hid (HTS.out k)
      obtain ⟨y, hy⟩ : ∃ y, app b (nth a k) = y := ⟨_, rfl⟩
      rw [hy] at HC2 HS
      have hlt1 : (k : Int) < (n : Int) := by omega
      have hq1 : (q : Int) < (n : Int) := by omega
      clear hc1 hc2 hy
      go_wp2_with fail
      refine (sod_is HRA.out (HA.out _ hB.out)).mono ?_
      rintro e w1 ⟨rfl, hb⟩
      have B1 := Lib.hid (Below.on hB.out hb)
      have O1 := Lib.hid (own_below hO.out hb)
      clear hb hB hO
      go_wp2_with fail
      refine (sod_is HRB.out (HB.out _ B1.out)).mono ?_
      rintro e w2 ⟨rfl, hb⟩
      have B2 := Lib.hid (Below.on B1.out hb)
      have O2 := Lib.hid (own_below O1.out hb)
      clear hb B1 O1
      have d1 := HC1.out _ B2.out
      have d2 := HC2.out _ B2.out
      have ov := O2.out
      have oz := B2.out.size
      have hll := HTL.out k
      go_wp2_with (at_builtin; refine wpAppInt rfl _ _ rfl rfl ov (by rw [hll]; omega) oz rfl ?_)
      intro v3 w3 o3 g3 _
      have O3 : Hid (Own w3 w.heap.size v3 (TH (k + 1))) := Lib.hid (by rw [HS.out]; exact o3)
      have B3 := Lib.hid (B2.out.grown g3 oz (fun k hk => (ov.lt k hk).1))
      clear d1 d2 ov oz o3 g3 hll B2 O2
      go_wp2
      go_roundw
      case rel => exact ⟨k + 1, by omega, by go_num, O3, B3⟩
      case measure => simp [intOf]; omega
    · obtain rfl : k = n := by omega
      go_wp2
      go_ret
      exact ⟨_, rfl, by rw [HX.out]; exact hO.out, hB.out⟩
theorem sthn_any (va vb : Value) (a b : List Int) (w : World) (h : Ints w va a) (h' : Ints w vb b) : Calls Try.prog 66 #[va, vb] w fun e w' => ∃ v, e = .returned v ∧ Own w' w.heap.size v (thL a b) ∧ Below w.heap.size w w' := by
  cases hb : thB a b
  · exact sthn_no va vb a b w h h' hb
  · exact sthn_yes va vb a b w h h' hb

theorem sbck_no (va : Value) (a : List Int) (w : World) (h : Ints w va a) (hb : odB a a.length = false) : Calls Try.prog 67 #[va] w fun e w' => ∃ v, e = .returned v ∧ Own w' w.heap.size v (bkL a) ∧ Below w.heap.size w w' := by
  have HX := Lib.hid (bkL_no hb)
  have HA := Lib.hid h
  obtain ⟨aa, ac, rfl, _⟩ := h.opened
  obtain ⟨n, hn⟩ : ∃ n, a.length = n := ⟨_, rfl⟩
  rw [hn] at HA hb ⊢
  clear h hn
  go_enter Try.func67, Try.ntmps67
  go_wp2_with fail
  refine (sod_is hb HA.out).mono ?_
  rintro e w1 ⟨rfl, hb1⟩
  have O1 := Lib.hid (own_mono (own_made' w1) hb1.size)
  have B1 := Lib.hid (Below.on hb1 (below_grow w1 (.cells #[] 3)))
  clear hb1 hb
  go_wp2
  go_ret
  exact ⟨_, rfl, by rw [HX.out]; exact O1.out, B1.out⟩

set_option maxHeartbeats 1600000 in
theorem sbck_yes (va : Value) (a : List Int) (w : World) (h : Ints w va a) (hb : odB a a.length = true) : Calls Try.prog 67 #[va] w fun e w' => ∃ v, e = .returned v ∧ Own w' w.heap.size v (bkL a) ∧ Below w.heap.size w w' := by
  have HA := Lib.hid h
  have oa := odB_true.1 hb
  obtain ⟨aa, ac, rfl, k1⟩ := h.opened
  have HC := Lib.hid (show ∀ k, k < a.length → ∃ G q, aa = some ⟨G, 0, none⟩ ∧ (∀ w', Below w.heap.size w w' → w'.cell? ⟨G, k, none⟩ = some (.int .i64 ((q : Nat) : Int))) ∧ q < a.length ∧ backTo a (k + 1) = (backTo a k).set q k from fun k hk => by
    obtain ⟨G, e1, hl, e2⟩ := k1.get k hk
    have hbd := oa.bd k hk
    have hal := oa.len
    exact ⟨G, (nth a k).toNat, e1, fun w' hb => by rw [show (((nth a k).toNat : Nat) : Int) = nth a k by omega]; exact (hb.cell (p := ⟨G, k, none⟩) hl).trans e2, by omega, rfl⟩)
  obtain ⟨BT, hBT⟩ : ∃ BT : Nat → List Int, BT = backTo a := ⟨_, rfl⟩
  obtain ⟨n, hn⟩ : ∃ n, a.length = n := ⟨_, rfl⟩
  have HX := Lib.hid (show bkL a = BT n from by rw [bkL_yes hb, hBT, ← hn]; rfl)
  have HTL := Lib.hid (show ∀ k, (BT k).length = n from fun k => by rw [hBT, backTo_len, hn])
  have HT0 := Lib.hid (show BT 0 = List.replicate n 0 from by rw [hBT, ← hn]; rfl)
  have hn5 : n ≤ 5 := by have := oa.len; have := oa.m5; omega
  have hn1 : 1 ≤ n := by have := oa.len; have := oa.m1; omega
  rw [← hBT] at HC
  rw [hn] at HA HC hb ⊢
  have hmk := run_make_row' (P := Try.prog) 22 3 (.int .i64 0) 8 Try.underlying22 infoInt rfl .i64 .i64 n (by omega) (by omega)
  clear h hn oa k1 hBT
  go_enter Try.func67, Try.ntmps67
  go_wp2_with fail
  refine (sod_is hb HA.out).mono ?_
  rintro e w1 ⟨rfl, hb1⟩
  have O1 := Lib.hid (own_make w1 n (by omega))
  have B1 := Lib.hid (Below.on hb1 (below_grow w1 (.cells (madeCells #[.int .i64 0] n) 3)))
  have Z1 := Lib.hid hb1.size
  clear hb1 hb
  go_wp2
  clear hmk
  go_loopw [4] (fun i wr => ∃ k : Nat, k ≤ n ∧ i = .int .i64 k ∧ Hid (Own wr w1.heap.size (.slice (some ⟨w1.heap.size, 0, none⟩) n n) (BT k)) ∧ Hid (Below w.heap.size w wr)) (fun i _ => n - (intOf i).toNat)
  case atStart => exact ⟨0, by omega, rfl, Lib.hid (by rw [HT0.out]; exact O1.out), B1⟩
  case round =>
    obtain ⟨k, hk, rfl, hO, hB⟩ := hrel
    obtain ⟨wo, rfl⟩ : ∃ wo : World, wo = wr := ⟨_, rfl⟩
    clear O1 B1
    by_cases hlt : k < n
    · obtain ⟨G, q, rfl, hc1, hq, hs⟩ := HC.out k hlt
      have d1 := hc1 _ hB.out
      have hlt1 : (k : Int) < (n : Int) := by omega
      have hq1 : (q : Int) < (n : Int) := by omega
      obtain ⟨⟨f1, f2⟩, s1, s2⟩ := Own.set (k := q) hO.out (HTL.out k) hq (k : Int)
      have O2 : Hid (Own (wo.setCell ⟨w1.heap.size, q, none⟩ (.int .i64 (k : Int))) w1.heap.size (.slice (some ⟨w1.heap.size, 0, none⟩) n n) (BT (k + 1))) := Lib.hid (by rw [hs]; exact s1)
      have B2 := Lib.hid (hB.out.grown s2 hB.out.size (fun b hb => by cases hb; exact Z1.out))
      clear hc1 hs s1 s2 hO hB
      go_wp2
      go_roundw
      case rel => exact ⟨k + 1, by omega, by go_num, O2, B2⟩
      case measure => simp [intOf]; omega
    · obtain rfl : k = n := by omega
      go_wp2
      go_ret
      exact ⟨_, rfl, by rw [HX.out]; exact own_mono hO.out Z1.out, hB.out⟩
theorem sbck_any (va : Value) (a : List Int) (w : World) (h : Ints w va a) : Calls Try.prog 67 #[va] w fun e w' => ∃ v, e = .returned v ∧ Own w' w.heap.size v (bkL a) ∧ Below w.heap.size w w' := by
  cases hb : odB a a.length
  · exact sbck_no va a w h hb
  · exact sbck_yes va a w h hb
end Go.Proofs.Ytlcegpmhlnilfaa

/- spec: l7Moved, GraphMoved. -/
namespace Go.Proofs.Ytlcegpmhlnilfaa
open Go.RowKit

theorem movTo_few {o es : List Int} {p : Int} (ho : Od o p) (hg : Gk p es) : ∀ n : Nat, (movTo o es n).length ≤ n
  | 0 => Nat.le_refl _
  | n + 1 => by
    rw [movTo, List.length_append]
    have := movTo_few ho hg n
    have := movIn_few (c := n) ho hg (Nat.le_refl _)
    omega
/-- A box that came in, the answer's box, a graph under way: its box, its edges in a list of the call's own. -/
structure Mo (w : World) (P R : List Value) (p : Int) (ev : Value) (xs : List Int) (wr : World) : Prop where
  bp : Box wr w.heap.size P
  br : Box wr (w.heap.size + 1) R
  bo : Box wr (w.heap.size + 1 + 1) [.int .i64 p, ev]
  ow : Own wr (w.heap.size + 3) ev xs
  be : Below w.heap.size w wr
theorem Box.grownK {w w' : World} {N : Nat} {r : Option Nat} {cs : List Value} (h : Box w N cs) (hg : w.grownBy w' r) (hr : ∀ b, r = some b → b ≠ N) : Box w' N cs := by
  have hl := h.lt
  obtain ⟨T, h⟩ := h
  exact ⟨T, by rw [hg.block N hl (fun e => hr N e.symm rfl)]; exact h⟩
theorem Mo.app {w wr w2 : World} {P R : List Value} {p : Int} {ev v2 : Value} {xs ys : List Int} (h : Mo w P R p ev xs wr) (ho : Own w2 (w.heap.size + 3) v2 ys) (hg : wr.grownBy w2 ev.ownBlock) :
    Box w2 (w.heap.size + 1 + 1) [.int .i64 p, ev] ∧ Mo w P R p v2 ys (w2.setCell ⟨w.heap.size + 1 + 1, 1, none⟩ v2) := by
  have hlo : ∀ b, ev.ownBlock = some b → w.heap.size + 3 ≤ b := fun b hb => (h.ow.lt b hb).1
  have hsz := h.bo.lt
  have b0 := h.bp.grownK hg (fun b hb => by have := hlo b hb; omega)
  have b1 := h.br.grownK hg (fun b hb => by have := hlo b hb; omega)
  have b2 := h.bo.grownK hg (fun b hb => by have := hlo b hb; omega)
  refine ⟨b2, b0.far (by omega) _, b1.far (by omega) _, by simpa using b2.set 1 v2, ?_, ((h.be.grown hg (by omega) (fun b hb => by have := hlo b hb; omega)).setCell (by show w.heap.size ≤ w.heap.size + 1 + 1; omega) _)⟩
  exact own_heap ho fun b hb => Below.heap_setCell _ _ _ _ (by have := (ho.lt b hb).1; show b ≠ w.heap.size + 1 + 1; omega)
theorem below_set2 {w w1 : World} {N : Nat} {x y : Value} (h : Below w.heap.size w w1) (hN : w.heap.size ≤ N) : Below w.heap.size w ((w1.setCell ⟨N, 0, none⟩ x).setCell ⟨N, 1, none⟩ y) := (h.setCell hN _).setCell hN _
theorem own_set2 {w1 : World} {N B B' : Nat} {v x y : Value} {xs : List Int} (h : Own w1 B v xs) (n1 : N < B) (hB : B' ≤ B) : Own ((w1.setCell ⟨N, 0, none⟩ x).setCell ⟨N, 1, none⟩ y) B' v xs :=
  own_mono (own_heap h fun b hb => (Below.heap_setCell _ _ _ _ (by have := (h.lt b hb).1; show b ≠ N; omega)).trans (Below.heap_setCell _ _ _ _ (by have := (h.lt b hb).1; show b ≠ N; omega))) hB
theorem cde_parts {o : List Int} {p e : Int} (ho : Od o p) (he : Ed p e) : ∃ (qa qb : Nat) (x y : Int), e.tdiv 10 = (qa : Int) ∧ e.tmod 10 = (qb : Int) ∧ qa < o.length ∧ qb < o.length ∧ nth o qa = x ∧ nth o qb = y ∧ 0 ≤ x ∧ x ≤ 4 ∧ 0 ≤ y ∧ y ≤ 4 ∧ x ≠ y ∧ cde o e = 10 * min x y + max x y := by
  have h5 := ho.m5
  have hl := ho.len
  have ea := he.a0
  have eb := he.ab
  have ep := he.bp
  have ha := ho.at_ (x := e.tdiv 10) (by omega) (by omega)
  have hb := ho.at_ (x := e.tmod 10) (by omega) (by omega)
  have hne : app o (e.tdiv 10) ≠ app o (e.tmod 10) := fun h => by have := ho.at_inj (by omega) (by omega) (by omega) (by omega) h; omega
  exact ⟨(e.tdiv 10).toNat, (e.tmod 10).toNat, app o (e.tdiv 10), app o (e.tmod 10), by omega, by omega, by omega, by omega, rfl, rfl, by omega, by omega, by omega, by omega, hne, rfl⟩

set_option maxRecDepth 20000 in
set_option maxHeartbeats 3200000 in
theorem smov_any (p : Int) (ev ov : Value) (es o : List Int) (w : World) (h : Ints w ev es) (h' : Ints w ov o) (hg : Gk p es) (ho : Od o p) : Calls Try.prog 44 #[.agg #[.int .i64 p, ev], ov] w fun e w' => ∃ v, e = .returned (.agg #[.int .i64 p, v]) ∧ Own w' w.heap.size v (mov o es) ∧ Below w.heap.size w w' := by
  obtain ⟨ea, ec, rfl, k1⟩ := h.opened
  obtain ⟨oa, oc, rfl, k2⟩ := h'.opened
  have hm1 := hg.few
  have hm2 := ho.len
  have hm5 := ho.m5
  have HC := Lib.hid (show ∀ j, j < es.length → ∃ G H qa qb x y, ea = some ⟨G, 0, none⟩ ∧ (∀ w', Below w.heap.size w w' → w'.cell? ⟨G, j, none⟩ = some (.int .i64 (nth es j))) ∧ (nth es j).tdiv 10 = ((qa : Nat) : Int) ∧ (nth es j).tmod 10 = ((qb : Nat) : Int) ∧ qa < o.length ∧ qb < o.length ∧ oa = some ⟨H, 0, none⟩ ∧
      (∀ w', Below w.heap.size w w' → w'.cell? ⟨H, qa, none⟩ = some (.int .i64 x)) ∧ (∀ w', Below w.heap.size w w' → w'.cell? ⟨H, qb, none⟩ = some (.int .i64 y)) ∧ 0 ≤ x ∧ x ≤ 4 ∧ 0 ≤ y ∧ y ≤ 4 ∧ x ≠ y ∧ cde o (nth es j) = 10 * min x y + max x y ∧ 0 ≤ nth es j ∧ nth es j ≤ 50 from fun j hj => by
    obtain ⟨G, e1, hl, e2⟩ := k1.get j hj
    have hed := hg.ed j hj
    obtain ⟨qa, qb, x, y, f1, f2, f3, f4, f5, f6, f7, f8, f9, f10, f11, f12⟩ := cde_parts ho hed
    obtain ⟨H, e3, hl3, e4⟩ := k2.get qa f3
    obtain ⟨H', e5, hl5, e6⟩ := k2.get qb f4
    obtain rfl : H = H' := by rw [e3] at e5; cases e5; rfl
    refine ⟨G, H, qa, qb, x, y, e1, fun w' hb => (hb.cell (p := ⟨G, j, none⟩) hl).trans e2, f1, f2, f3, f4, e3, fun w' hb => ?_, fun w' hb => ?_, f7, f8, f9, f10, f11, f12, ?_, ?_⟩
    · rw [← f5]; exact (hb.cell (p := ⟨H, qa, none⟩) hl3).trans e4
    · rw [← f6]; exact (hb.cell (p := ⟨H, qb, none⟩) hl5).trans e6
    · have := hed.pos; omega
    · have := hed.lt hg.p5; omega)
  obtain ⟨MT, hMT⟩ : ∃ MT : Nat → List Int, MT = movTo o es := ⟨_, rfl⟩
  obtain ⟨MI, hMI⟩ : ∃ MI : Nat → Nat → List Int, MI = fun c j => movTo o es c ++ movIn o es c j := ⟨_, rfl⟩
  obtain ⟨n, hn⟩ : ∃ n, es.length = n := ⟨_, rfl⟩
  obtain ⟨m, hm⟩ : ∃ m, o.length = m := ⟨_, rfl⟩
  have HX := Lib.hid (show mov o es = MT 100 from by rw [hMT]; rfl)
  have HT0 := Lib.hid (show MT 0 = [] from by rw [hMT]; rfl)
  have HI0 := Lib.hid (show ∀ c, MI c 0 = MT c from fun c => by rw [hMI, hMT]; exact List.append_nil _)
  have HIy := Lib.hid (show ∀ c j, cde o (nth es j) = ((c : Nat) : Int) → MI c (j + 1) = MI c j ++ [(c : Int)] from fun c j e => by
    rw [hMI]; show movTo o es c ++ (movIn o es c j ++ if cde o (nth es j) = c then [(c : Int)] else []) = _; rw [if_pos e, List.append_assoc])
  have HIn := Lib.hid (show ∀ c j, cde o (nth es j) ≠ ((c : Nat) : Int) → MI c (j + 1) = MI c j from fun c j e => by
    rw [hMI]; show movTo o es c ++ (movIn o es c j ++ if cde o (nth es j) = c then [(c : Int)] else []) = _; rw [if_neg e, List.append_nil])
  have HIm := Lib.hid (show ∀ c, MI c n = MT (c + 1) from fun c => by rw [hMI, hMT, ← hn]; rfl)
  have HL := Lib.hid (show ∀ c j, c < 100 → j < n → (MI c j).length < 1000 from fun c j hc hj => by
    rw [hMI]
    show (movTo o es c ++ movIn o es c j).length < 1000
    rw [List.length_append]
    have := movTo_few ho hg c
    have := movIn_few (c := c) (k := j) ho hg (by omega)
    omega)
  rw [hn] at HC hm1 ⊢
  rw [hm] at HC hm2 ⊢
  have hm6 : m ≤ 5 := by omega
  obtain ⟨p0, p1, p2, pl⟩ := boxes3 (P := [.int .i64 p, .slice ea n ec]) (R := [.int .i64 0, .slice none 0 0]) (O := [.int .i64 p, .slice none 0 0]) (Below.refl (((w.alloc (.cells #[.int .i64 p, .slice ea n ec] 30)).alloc (.cells #[.int .i64 0, .slice none 0 0] 30)).alloc (.cells #[.int .i64 p, .slice none 0 0] 30)).heap.size _)
  have M0 := Lib.hid (show Mo w [.int .i64 p, .slice ea n ec] [.int .i64 0, .slice none 0 0] p (.slice none 0 0) [] _ from ⟨p0, p1, p2, World.ownsRow_nil _ _ _ _, pl⟩)
  clear h h' k1 k2 hg ho hn hm hMT hMI p0 p1 p2 pl hm2 hm5
  go_enter Try.func44, Try.ntmps44
  go_wp2
  go_loopw [6] (fun i wr => ∃ c : Nat, c ≤ 100 ∧ i = .int .i64 c ∧ Hid (∃ xv, Mo w [.int .i64 p, .slice ea n ec] [.int .i64 0, .slice none 0 0] p xv (MT c) wr)) (fun i _ => 100 - (intOf i).toNat)
  case atStart => exact ⟨0, by omega, rfl, Lib.hid ⟨_, by rw [HT0.out]; exact M0.out⟩⟩
  case round =>
    obtain ⟨c, hc, rfl, hM⟩ := hrel
    obtain ⟨wo, rfl⟩ : ∃ wo : World, wo = wr := ⟨_, rfl⟩
    clear M0
    by_cases hlt : c < 100
    · have M1 : Hid (∃ xv, Mo w [.int .i64 p, .slice ea n ec] [.int .i64 0, .slice none 0 0] p xv (MI c 0) wo) := Lib.hid (by rw [HI0.out]; exact hM.out)
      have hc1 : (c : Int) < 100 := by omega
      clear hM
      go_wp2
      go_loopw [7] (fun i wr => ∃ j : Nat, j ≤ n ∧ i = .int .i64 j ∧ Hid (∃ xv, Mo w [.int .i64 p, .slice ea n ec] [.int .i64 0, .slice none 0 0] p xv (MI c j) wr)) (fun i _ => n - (intOf i).toNat)
      case atStart => exact ⟨0, by omega, rfl, M1⟩
      case round =>
        obtain ⟨j, hj, rfl, hM2⟩ := hrel
        obtain ⟨wj, rfl⟩ : ∃ wj : World, wj = wr := ⟨_, rfl⟩
        clear M1
        obtain ⟨xv, hmo⟩ := hM2.out
        have b1 := hmo.bp.cell 1
        simp at b1
        have MM := Lib.hid hmo
        clear hmo
        by_cases hjl : j < n
        · obtain ⟨G, H, qa, qb, x, y, rfl, d1, f1, f2, f3, f4, rfl, d2, d3, x0, x4, y0, y4, hne, hcd, e0, e50⟩ := HC.out j hjl
          have c1 := d1 _ MM.out.be
          have c2 := d2 _ MM.out.be
          have c3 := d3 _ MM.out.be
          obtain ⟨e, he⟩ : ∃ e, nth es j = e := ⟨_, rfl⟩
          have HY := Lib.hid (HIy.out c j)
          have HN := Lib.hid (HIn.out c j)
          rw [he] at c1 f1 f2 hcd e0 e50 HY HN
          have HCD := Lib.hid hcd
          have qA : IntKind.wrap .i64 (e.tdiv 10) = (qa : Int) := by rw [f1]; exact IntWalk.i64_in _ (by omega)
          have hjn : (j : Int) < (n : Int) := by omega
          have hqa : (qa : Int) < (m : Int) := by omega
          have hqb : (qb : Int) < (m : Int) := by omega
          clear d1 d2 d3 he hcd f1 hM2
          by_cases hxy : x ≤ y
          · have hyx : ¬ y ≤ x := by omega
            have hz : cde o e = 10 * x + y := by rw [HCD.out, Int.min_eq_left hxy, Int.max_eq_right hxy]
            by_cases hzc : 10 * x + y = (c : Int)
            · have hd : (10 * x + y == (c : Int)) = true := by simp [hzc]
              have HS := Lib.hid (HY.out (by rw [hz, hzc]))
              have bo := MM.out.bo.cell 1
              simp at bo
              have ov := MM.out.ow
              have oz : w.heap.size + 3 ≤ wj.heap.size := by have := MM.out.bo.lt; omega
              have hll := HL.out c j hlt hjl
              clear hz hzc hne
              go_wp2_with (at_builtin; refine wpAppInt rfl _ _ rfl rfl ov (by omega) oz rfl ?_)
              intro v2 w2 o2 g2 _
              obtain ⟨va2, vc2, hv2⟩ := o2.form
              obtain ⟨vn2, hvn2⟩ : ∃ vn2, (MI c j ++ [(c : Int)]).length = vn2 := ⟨_, rfl⟩
              rw [hvn2] at hv2
              subst hv2
              clear hvn2
              have AA := MM.out.app o2 g2
              have bn := AA.1.cell 1
              have bf := AA.1.frozen 1
              simp at bn
              have M3 : Hid (∃ xv, Mo w [.int .i64 p, .slice (some ⟨G, 0, none⟩) n ec] [.int .i64 0, .slice none 0 0] p xv (MI c (j + 1)) (w2.setCell ⟨w.heap.size + 1 + 1, 1, none⟩ (.slice va2 vn2 vc2))) := Lib.hid ⟨_, by rw [HS.out]; exact AA.2⟩
              clear AA o2 g2 ov oz hll bo b1 c1 c2 c3
              go_wp2
              go_roundw
              case rel => exact ⟨j + 1, by omega, by go_num, M3⟩
              case measure => simp [intOf]; omega
            · have hd : (10 * x + y == (c : Int)) = false := by simp [hzc]
              have M3 : Hid (∃ xv, Mo w [.int .i64 p, .slice (some ⟨G, 0, none⟩) n ec] [.int .i64 0, .slice none 0 0] p xv (MI c (j + 1)) wj) := Lib.hid ⟨xv, by rw [HN.out (by rw [hz]; exact hzc)]; exact MM.out⟩
              clear hz hzc hne
              go_wp2
              go_roundw
              case rel => exact ⟨j + 1, by omega, by go_num, M3⟩
              case measure => simp [intOf]; omega
          · have hyx : y ≤ x := by omega
            have hz : cde o e = 10 * y + x := by rw [HCD.out, Int.min_eq_right hyx, Int.max_eq_left hyx]
            by_cases hzc : 10 * y + x = (c : Int)
            · have hd : (10 * y + x == (c : Int)) = true := by simp [hzc]
              have HS := Lib.hid (HY.out (by rw [hz, hzc]))
              have bo := MM.out.bo.cell 1
              simp at bo
              have ov := MM.out.ow
              have oz : w.heap.size + 3 ≤ wj.heap.size := by have := MM.out.bo.lt; omega
              have hll := HL.out c j hlt hjl
              clear hz hzc hne
              go_wp2_with (at_builtin; refine wpAppInt rfl _ _ rfl rfl ov (by omega) oz rfl ?_)
              intro v2 w2 o2 g2 _
              obtain ⟨va2, vc2, hv2⟩ := o2.form
              obtain ⟨vn2, hvn2⟩ : ∃ vn2, (MI c j ++ [(c : Int)]).length = vn2 := ⟨_, rfl⟩
              rw [hvn2] at hv2
              subst hv2
              clear hvn2
              have AA := MM.out.app o2 g2
              have bn := AA.1.cell 1
              have bf := AA.1.frozen 1
              simp at bn
              have M3 : Hid (∃ xv, Mo w [.int .i64 p, .slice (some ⟨G, 0, none⟩) n ec] [.int .i64 0, .slice none 0 0] p xv (MI c (j + 1)) (w2.setCell ⟨w.heap.size + 1 + 1, 1, none⟩ (.slice va2 vn2 vc2))) := Lib.hid ⟨_, by rw [HS.out]; exact AA.2⟩
              clear AA o2 g2 ov oz hll bo b1 c1 c2 c3
              go_wp2
              go_roundw
              case rel => exact ⟨j + 1, by omega, by go_num, M3⟩
              case measure => simp [intOf]; omega
            · have hd : (10 * y + x == (c : Int)) = false := by simp [hzc]
              have M3 : Hid (∃ xv, Mo w [.int .i64 p, .slice (some ⟨G, 0, none⟩) n ec] [.int .i64 0, .slice none 0 0] p xv (MI c (j + 1)) wj) := Lib.hid ⟨xv, by rw [HN.out (by rw [hz]; exact hzc)]; exact MM.out⟩
              clear hz hzc hne
              go_wp2
              go_roundw
              case rel => exact ⟨j + 1, by omega, by go_num, M3⟩
              case measure => simp [intOf]; omega
        · obtain rfl : j = n := by omega
          have M3 : Hid (∃ xv, Mo w [.int .i64 p, .slice ea j ec] [.int .i64 0, .slice none 0 0] p xv (MT (c + 1)) wj) := Lib.hid ⟨xv, by rw [← HIm.out]; exact MM.out⟩
          clear hM2
          go_wp2
          go_roundw
          case rel => exact ⟨c + 1, by omega, by go_num, M3⟩
          case measure => simp [intOf]; omega
    · obtain rfl : c = 100 := by omega
      obtain ⟨xv, hmo⟩ := hM.out
      have r0 := hmo.br.cell 0
      have r1 := hmo.br.cell 1
      have f0 := hmo.br.frozen 0
      have f1 := hmo.br.frozen 1
      have c0 := hmo.bo.cell 0
      have c1 := hmo.bo.cell 1
      simp at r0 r1 c0 c1
      obtain ⟨xa, xc, hxv⟩ := hmo.ow.form
      subst hxv
      have MM := Lib.hid hmo
      clear hmo hM
      go_wp2
      refine bodyPost_ret (v := .agg #[.int .i64 p, .slice xa (MT 100).length xc]) ?_ rfl ⟨_, rfl, ?_, below_set2 MM.out.be (by omega)⟩
      · simp [results, Try.results44, go_sem, r0, r1]
      · rw [HX.out]; exact own_set2 MM.out.ow (by omega) (by omega)
end Go.Proofs.Ytlcegpmhlnilfaa

/- spec: l7Orders. -/
namespace Go.Proofs.Ytlcegpmhlnilfaa
open Go.RowKit

def fitTo (xs : List Int) (p : Nat) : Nat → Bool
  | 0 => true
  | i + 1 => fitTo xs p i && decide (nth xs i ≠ p)
theorem fitTo_true {xs : List Int} {p : Nat} : ∀ {n : Nat}, fitTo xs p n = true ↔ ∀ i, i < n → nth xs i ≠ p
  | 0 => by simp [fitTo]
  | n + 1 => by
    rw [fitTo, Bool.and_eq_true, fitTo_true, decide_eq_true_eq]
    constructor
    · rintro ⟨h1, h2⟩ i hi
      by_cases e : i < n
      · exact h1 i e
      · obtain rfl : i = n := by omega
        exact h2
    · intro h; exact ⟨fun i hi => h i (by omega), h n (by omega)⟩
theorem fitTo_all {xs : List Int} {p k : Nat} (hk : xs.length = k) : fitTo xs p k = fits xs p := by
  have h : fitTo xs p k = true ↔ fits xs p = true := by
    rw [fitTo_true, fits_true]
    constructor
    · intro h hin
      obtain ⟨j, hj, e⟩ := nth_of hin
      exact h j (by omega) e
    · intro h i hi e
      exact h (by rw [← e]; exact nth_mem (by omega))
  cases h1 : fitTo xs p k <;> cases h2 : fits xs p <;> simp_all
theorem nxtIn_len (xs : List Int) : ∀ n, (nxtIn xs n).length ≤ n
  | 0 => Nat.le_refl _
  | n + 1 => by
    rw [nxtIn, List.length_append]
    have := nxtIn_len xs n
    split <;> simp <;> omega
theorem nxtTo_len (m : Nat) (xss : List (List Int)) : ∀ n, (nxtTo m xss n).length ≤ n * m
  | 0 => by simp [nxtTo]
  | n + 1 => by
    rw [nxtTo, List.length_append, Nat.succ_mul]
    have := nxtTo_len m xss n
    have := nxtIn_len (row xss n) m
    omega
theorem ordTo_len {m : Nat} (hm : m ≤ 5) : ∀ k, (ordTo m k).length ≤ 5 ^ k
  | 0 => by simp [ordTo]
  | k + 1 => by
    rw [ordTo, Nat.pow_succ]
    exact Nat.le_trans (nxtTo_len _ _ _) (Nat.mul_le_mul (ordTo_len hm k) hm)
theorem ordTo_few {m k : Nat} (hm : m ≤ 5) (hk : k ≤ 5) : (ordTo m k).length ≤ 3125 :=
  Nat.le_trans (ordTo_len hm k) (Nat.le_trans (Nat.pow_le_pow_right (by decide) hk) (by decide))
theorem ordTo_row {m k j : Nat} (hj : j < (ordTo m k).length) : (row (ordTo m k) j).length = k := (ordTo_mem.1 (row_mem hj)).1
theorem nxtIn_yes {xs : List Int} {p : Nat} (h : fits xs p = true) : nxtIn xs (p + 1) = nxtIn xs p ++ [xs ++ [(p : Int)]] := by rw [nxtIn, if_pos h]
theorem nxtIn_no {xs : List Int} {p : Nat} (h : fits xs p = false) : nxtIn xs (p + 1) = nxtIn xs p := by rw [nxtIn, if_neg (by simp [h]), List.append_nil]

set_option maxRecDepth 20000 in
set_option maxHeartbeats 6400000 in
theorem sords_any (m : Nat) (w : World) (hm : m ≤ 5) :
    Calls Try.prog 43 #[.int .i64 m] w fun e w' => ∃ v us, e = .returned v ∧ OwnSS w' w.heap.size w'.heap.size v us (ords m) ∧ Full us ∧ Below w.heap.size w w' := by
  have O1 : Hid (∃ us, Full us ∧ OwnSS ((w.alloc (.cells #[] 3)).alloc (.cells #[.slice (some ⟨w.heap.size, 0, none⟩) 0 0] 22)) w.heap.size ((w.alloc (.cells #[] 3)).alloc (.cells #[.slice (some ⟨w.heap.size, 0, none⟩) 0 0] 22)).heap.size (.slice (some ⟨w.heap.size + 1, 0, none⟩) 1 1) us (ordTo m 0)) := Lib.hid ⟨_, Full.nil.app, ownSS_one' w⟩
  have I1 := Lib.hid ((below_grow w (.cells #[] 3)).trans ((below_grow (w.alloc (.cells #[] 3)) (.cells #[.slice (some ⟨w.heap.size, 0, none⟩) 0 0] 22)).mono (by simp)))
  have HL := Lib.hid (show ∀ k, k < m → (ordTo m k).length ≤ 3125 from fun k hk => ordTo_few hm (by omega))
  have HS := Lib.hid (show ∀ k, ordTo m (k + 1) = nxtTo m (ordTo m k) (ordTo m k).length from fun _ => rfl)
  go_enter Try.func43, Try.ntmps43
  go_wp2
  go_loopw [3, 4] (fun v i wr => ∃ k : Nat, k ≤ m ∧ i = .int .i64 k ∧ Hid (∃ us, Full us ∧ OwnSS wr w.heap.size wr.heap.size v us (ordTo m k)) ∧ Hid (Below w.heap.size w wr)) (fun _ i _ => m - (intOf i).toNat)
  case atStart => exact ⟨0, by omega, rfl, Lib.hid (by have := O1.out; simpa using this), I1⟩
  case round =>
    obtain ⟨k, hk, rfl, hO, hI⟩ := hrel
    obtain ⟨wo, rfl⟩ : ∃ wo : World, wo = wr := ⟨_, rfl⟩
    clear O1 I1
    by_cases hlt : k < m
    · have hlt1 : (k : Int) < (m : Int) := by omega
      obtain ⟨us, hf, ho⟩ := hO.out
      obtain ⟨xss, hxs⟩ : ∃ xss, ordTo m k = xss := ⟨_, rfl⟩
      have hl40 : xss.length ≤ 3125 := by rw [← hxs]; exact HL.out k hlt
      have hrl : ∀ j, j < xss.length → (row xss j).length = k := fun j hj => by rw [← hxs] at hj ⊢; exact ordTo_row hj
      rw [hxs] at ho
      obtain ⟨a, c', rfl, hcell⟩ := outer_cell ho.outer
      obtain ⟨n, hn⟩ : ∃ n, xss.length = n := ⟨_, rfl⟩
      have hul : us.length = n := by rw [ho.len]; exact hn
      have HRL := Lib.hid (show ∀ j, j < n → (row xss j).length = k from fun j hj => hrl j (by rw [hn]; exact hj))
      have HR := Lib.hid (show ∀ j, j < n → ∃ G X cx, a = some ⟨G, 0, none⟩ ∧ ∀ w', Below wo.heap.size wo w' → w'.cell? ⟨G, j, none⟩ = some (.slice (some ⟨X, 0, none⟩) k cx) ∧ ∀ i, i < k → w'.cell? ⟨X, i, none⟩ = some (.int .i64 (nth (row xss j) i)) from fun j hj => by
        have hj' : j < us.length := by rw [hul]; exact hj
        obtain ⟨G, e1, h1, e2⟩ := hcell j hj'
        obtain ⟨X, n', cx, e3⟩ := hf j hj'
        have hr := ho.rows j hj'
        have hrk := HRL.out j hj
        obtain ⟨_, _, e4⟩ := Own.form hr
        rw [hrk] at e4
        rw [e3] at e4
        cases e4
        rw [e3] at e2 hr
        refine ⟨G, X, cx, e1, fun w' hb => ⟨(hb.cell (p := ⟨G, j, none⟩) h1).trans e2, fun i hi => ?_⟩⟩
        obtain ⟨h5, h6⟩ := own_cell hr (by rw [hrk]; unfold maxLen; omega) (j := i) (by rw [hrk]; exact hi)
        exact (hb.cell (p := ⟨X, i, none⟩) h5).trans h6)
      have HX : Hid (ordTo m (k + 1) = nxtTo m xss n) := Lib.hid (by rw [HS.out, hxs, hn])
      have hn40 : n ≤ 3125 := by rw [← hn]; exact hl40
      have ON : Hid (∃ us, Full us ∧ OwnSS (wo.alloc (.cells #[] 22)) wo.heap.size (wo.alloc (.cells #[] 22)).heap.size (.slice (some ⟨wo.heap.size, 0, none⟩) 0 0) us (nxtTo m xss 0)) := Lib.hid ⟨[], Full.nil, ownSS_none wo⟩
      have BN := Lib.hid (below_grow wo (.cells #[] 22))
      rw [hul]
      clear ho hl40 hrl hxs hn hul hO us hf hcell
      go_wp2
      go_loopw [5, 6] (fun v i wr => ∃ j : Nat, j ≤ n ∧ i = .int .i64 j ∧ Hid (∃ us, Full us ∧ OwnSS wr wo.heap.size wr.heap.size v us (nxtTo m xss j)) ∧ Hid (Below wo.heap.size wo wr)) (fun _ i _ => n - (intOf i).toNat)
      case atStart => exact ⟨0, by omega, rfl, ON, BN⟩
      case round =>
        obtain ⟨j, hj, rfl, hO, hB2⟩ := hrel
        obtain ⟨wj, rfl⟩ : ∃ wj : World, wj = wr := ⟨_, rfl⟩
        clear ON BN
        by_cases hjl : j < n
        · obtain ⟨G, X, cx, rfl, hcu⟩ := HR.out j hjl
          have HI := Lib.hid hcu
          have HRK := Lib.hid (HRL.out j hjl)
          have HXJ := Lib.hid (show nxtTo m xss (j + 1) = nxtTo m xss j ++ nxtIn (row xss j) m from rfl)
          have HXY := Lib.hid (show ∀ p, fits (row xss j) p = true → nxtTo m xss j ++ nxtIn (row xss j) (p + 1) = (nxtTo m xss j ++ nxtIn (row xss j) p) ++ [row xss j ++ [(p : Int)]] from fun p h => by rw [nxtIn_yes h, List.append_assoc])
          have HXN := Lib.hid (show ∀ p, fits (row xss j) p = false → nxtTo m xss j ++ nxtIn (row xss j) (p + 1) = nxtTo m xss j ++ nxtIn (row xss j) p from fun p h => by rw [nxtIn_no h])
          have HEL := Lib.hid (show ∀ p, p ≤ m → (nxtTo m xss j ++ nxtIn (row xss j) p).length ≤ 20000 from fun p hp => by
            rw [List.length_append]
            have h1 := nxtTo_len m xss j
            have h2 := nxtIn_len (row xss j) p
            have h3 := Nat.mul_le_mul (show j ≤ 3125 by omega) hm
            omega)
          have HFA := Lib.hid (show ∀ p, fitTo (row xss j) p k = fits (row xss j) p from fun p => fitTo_all HRK.out)
          have hjl1 : (j : Int) < (n : Int) := by omega
          clear hcu
          go_wp2
          go_loopw [5, 7] (fun v i wr => ∃ p : Nat, p ≤ m ∧ i = .int .i64 p ∧ Hid (∃ us, Full us ∧ OwnSS wr wo.heap.size wr.heap.size v us (nxtTo m xss j ++ nxtIn (row xss j) p)) ∧ Hid (Below wo.heap.size wo wr)) (fun _ i _ => m - (intOf i).toNat)
          case atStart => exact ⟨0, by omega, rfl, Lib.hid (by have := hO.out; simpa [nxtIn] using this), hB2⟩
          case round =>
            obtain ⟨p, hp, rfl, hO3, hB3⟩ := hrel
            obtain ⟨wp, rfl⟩ : ∃ wp : World, wp = wr := ⟨_, rfl⟩
            clear hO hB2
            by_cases hpl : p < m
            · have hpl1 : (p : Int) < (m : Int) := by omega
              have hcell := (HI.out _ hB3.out).1
              have HCI := Lib.hid (HI.out _ hB3.out).2
              go_wp2
              go_loop [8, 9] (fun f i => ∃ q : Nat, q ≤ k ∧ i = .int .i64 q ∧ f = .bool (fitTo (row xss j) p q)) (fun _ i => k - (intOf i).toNat)
              case atStart => exact ⟨0, by omega, rfl, rfl⟩
              case round =>
                obtain ⟨q, hq, rfl, rfl⟩ := hrel
                by_cases hql : q < k
                · have hql1 : (q : Int) < (k : Int) := by omega
                  have hcq := HCI.out q hql
                  obtain ⟨x, hx⟩ : ∃ x, nth (row xss j) q = x := ⟨_, rfl⟩
                  have HFS : Hid (fitTo (row xss j) p (q + 1) = (fitTo (row xss j) p q && decide (x ≠ (p : Int)))) := Lib.hid (by rw [← hx]; rfl)
                  rw [hx] at hcq
                  clear hx
                  cases hfq : fitTo (row xss j) p q
                  · have HF2 : Hid (fitTo (row xss j) p (q + 1) = false) := Lib.hid (by rw [HFS.out, hfq]; rfl)
                    clear hfq
                    go_wp2
                    go_round
                    case rel => exact ⟨q + 1, by omega, by go_num, by rw [HF2.out]⟩
                    case measure => simp [intOf]; omega
                  · by_cases hxp : x = (p : Int)
                    · have hd : (x != (p : Int)) = false := by simp [hxp]
                      have HF2 : Hid (fitTo (row xss j) p (q + 1) = false) := Lib.hid (by rw [HFS.out, hxp]; simp)
                      clear hfq hxp
                      go_wp2
                      go_round
                      case rel => exact ⟨q + 1, by omega, by go_num, by rw [HF2.out]⟩
                      case measure => simp [intOf]; omega
                    · have hd : (x != (p : Int)) = true := by simp [hxp]
                      have HF2 : Hid (fitTo (row xss j) p (q + 1) = true) := Lib.hid (by rw [HFS.out, hfq]; simp [hxp])
                      clear hfq hxp
                      go_wp2
                      go_round
                      case rel => exact ⟨q + 1, by omega, by go_num, by rw [HF2.out]⟩
                      case measure => simp [intOf]; omega
                · obtain rfl : q = k := by omega
                  rw [HFA.out]
                  cases hft : fits (row xss j) p
                  · have O4 : Hid (∃ us, Full us ∧ OwnSS wp wo.heap.size wp.heap.size u5 us (nxtTo m xss j ++ nxtIn (row xss j) (p + 1))) := Lib.hid (by rw [HXN.out p hft]; exact hO3.out)
                    clear hft hO3
                    go_wp2
                    go_roundw
                    case rel => exact ⟨p + 1, by omega, by go_num, O4, hB3⟩
                    case measure => simp [intOf]; omega
                  · have HFT := Lib.hid (HXY.out p hft)
                    obtain ⟨us, hf, ho⟩ := hO3.out
                    have HO := Lib.hid ho
                    have HF := Lib.hid hf
                    have hul : us.length ≤ 20000 := by have h1 := ho.len; have h2 := HEL.out p hp; omega
                    have hBA := Below.on hB3.out (below_grow wp (.cells #[] 3))
                    have hcell2 := (HI.out _ hBA).1
                    have HCI2 := Lib.hid (HI.out _ hBA).2
                    have hrk := HRK.out
                    clear hO3 ho hf hBA hft
                    go_wp2_with (at_builtin; refine wpAppInts (xs := []) (ys := row xss j) rfl _ _ rfl rfl (own_made' wp) HRK.out (by simp; omega) (by simp) rfl HCI2.out ?_)
                    intro v1 w1 o1 g1
                    have b1 : Below wp.heap.size wp w1 := (below_grow wp _).grown g1 (by simp) (fun k hk => ((own_made' wp).lt k hk).1)
                    have o1' : Own w1 wp.heap.size v1 (row xss j) := o1
                    clear hcell hcell2 o1 g1
                    go_wp2_with (at_builtin; refine wpAppInt rfl _ _ rfl rfl o1' (by omega) b1.size rfl ?_)
                    intro v2 w2 o2 g2 _
                    obtain ⟨X2, c2, rfl⟩ := own_slice o2 (by simp)
                    have b2 := b1.grown g2 b1.size (fun k hk => (o1'.lt k hk).1)
                    have O2 := Lib.hid o2
                    have B2 := Lib.hid b2
                    have hou : w2.ownsRow wo.heap.size 22 1 u5 us.length us := (HO.out.onAll b2).outer
                    clear o1' b1 o2 g2 b2 HCI HCI2 hrk
                    go_wp2_with (at_builtin; refine wpAppRow rfl _ _ rfl rfl hou (by omega) (Nat.le_trans hB3.out.size B2.out.size) rfl rfl ?_)
                    intro v4 w4 o4 g4 k4
                    have O4 : Hid (∃ us, Full us ∧ OwnSS w4 wo.heap.size w4.heap.size v4 us (nxtTo m xss j ++ nxtIn (row xss j) (p + 1))) := Lib.hid ⟨_, HF.out.app, by rw [HFT.out]; exact HO.out.next hB3.out.size B2.out O2.out (by simpa using o4) g4 k4⟩
                    have B4 := Lib.hid ((Below.on hB3.out B2.out).grown g4 (Nat.le_trans hB3.out.size B2.out.size) (fun k hk => (HO.out.outer.lt k hk).1))
                    clear o4 g4 k4 hou HO B2 O2 hB3
                    go_wp2
                    go_roundw
                    case rel => exact ⟨p + 1, by omega, by go_num, O4, B4⟩
                    case measure => simp [intOf]; omega
            · obtain rfl : p = m := by omega
              have O4 : Hid (∃ us, Full us ∧ OwnSS wp wo.heap.size wp.heap.size u5 us (nxtTo p xss (j + 1))) := Lib.hid (by rw [HXJ.out]; exact hO3.out)
              clear hO3
              go_wp2
              go_roundw
              case rel => exact ⟨j + 1, by omega, by go_num, O4, hB3⟩
              case measure => simp [intOf]; omega
        · obtain rfl : j = n := by omega
          have O5 : Hid (∃ us, Full us ∧ OwnSS wj w.heap.size wj.heap.size u5 us (ordTo m (k + 1))) := Lib.hid (by
            obtain ⟨us, hf, ho⟩ := hO.out
            exact ⟨us, hf, by rw [HX.out]; exact ho.lower hI.out.size⟩)
          have I5 := Lib.hid (Below.on hI.out hB2.out)
          clear hO hB2
          go_wp2
          go_roundw
          case rel => exact ⟨k + 1, by omega, by go_num, O5, I5⟩
          case measure => simp [intOf]; omega
    · obtain rfl : k = m := by omega
      obtain ⟨us, hf, ho⟩ := hO.out
      go_wp2
      go_ret
      exact ⟨_, us, rfl, ho, hf, hI.out⟩
end Go.Proofs.Ytlcegpmhlnilfaa

/- spec: l7Same, GraphMoved, OrdersBetween. -/
namespace Go.Proofs.Ytlcegpmhlnilfaa
open Go.RowKit

theorem ssg_any (p q : Int) (gv hv : Value) (g h : List Int) (w : World) (hg : Ints w gv g) (hh : Ints w hv h) :
    Calls Try.prog 65 #[.agg #[.int .i64 p, gv], .agg #[.int .i64 q, hv]] w fun e w' => e = .returned (.bool (decide (p = q) && sameB g h)) ∧ Below w.heap.size w w' := by
  obtain ⟨p0, p1, pl⟩ := boxes2 (P := [.int .i64 p, gv]) (R := [.int .i64 q, hv]) (Below.refl ((w.alloc (.cells #[.int .i64 p, gv] 30)).alloc (.cells #[.int .i64 q, hv] 30)).heap.size _)
  have a0 := p0.cell 0
  have a1 := p0.cell 1
  have b0 := p1.cell 0
  have b1 := p1.cell 1
  simp at a0 a1 b0 b1
  have PL := Lib.hid pl
  have HG := Lib.hid (hg.below pl)
  have HH := Lib.hid (hh.below pl)
  clear p0 p1 pl hg hh
  by_cases e : p = q
  · have HX := Lib.hid (show (decide (p = q) && sameB g h) = sameB g h from by simp [e])
    have hd : (p == q) = true := by simp [e]
    clear e
    go_enter Try.func65, Try.ntmps65
    go_wp2_with fail
    refine (ssame_any gv hv g h _ HG.out HH.out).mono ?_
    rintro e w1 ⟨rfl, hb⟩
    have B1 := Lib.hid (Below.on PL.out hb)
    clear hb a0 a1 b0 b1
    go_wp2
    go_ret
    exact ⟨by rw [HX.out]; rfl, B1.out⟩
  · have HX := Lib.hid (show (decide (p = q) && sameB g h) = false from by simp [e])
    have hd : (p == q) = false := by simp [e]
    clear e
    go_enter Try.func65, Try.ntmps65
    go_wp2
    go_ret
    exact ⟨by rw [HX.out]; rfl, PL.out⟩
theorem ssg_is {p q : Int} {gv hv : Value} {g h : List Int} {w : World} {r : Bool} (hr : (decide (p = q) && sameB g h) = r) (hg : Ints w gv g) (hh : Ints w hv h) :
    Calls Try.prog 65 #[.agg #[.int .i64 p, gv], .agg #[.int .i64 q, hv]] w fun e w' => e = .returned (.bool r) ∧ Below w.heap.size w w' := by rw [← hr]; exact ssg_any p q gv hv g h w hg hh

/-- GraphMoved. -/
def gmB (p : Int) (es o : List Int) : Bool := gkB p es && odB o p
def gmP (p : Int) (es o : List Int) : Int := if gmB p es o then p else 0
def gmE (p : Int) (es o : List Int) : List Int := if gmB p es o then mov o es else []
theorem gm_yes {p : Int} {es o : List Int} (h : gmB p es o = true) : gmP p es o = p ∧ gmE p es o = mov o es := by simp [gmP, gmE, h]
theorem gm_no {p : Int} {es o : List Int} (h : gmB p es o = false) : gmP p es o = 0 ∧ gmE p es o = [] := by simp [gmP, gmE, h]
theorem gmB_true {p : Int} {es o : List Int} : gmB p es o = true ↔ Gk p es ∧ Od o p := by unfold gmB; rw [Bool.and_eq_true, gkB_true, odB_true]
def GrPost (p : Int) (es : List Int) (w : World) (e : Ending) (w' : World) : Prop := ∃ v, e = .returned (.agg #[.int .i64 p, v]) ∧ Own w' w.heap.size v es ∧ Below w.heap.size w w'

end Go.Proofs.Ytlcegpmhlnilfaa

/- spec: OrdersBetween. -/
namespace Go.Proofs.Ytlcegpmhlnilfaa
open Go.RowKit

/-- Of the lists in a list those that are taken, so far; W is the world in which the walk began to make memory. -/
structure SolBu (W : World) (hi0 hi2 : Nat) (wr : World) (lv : Value) (us : List Value) (L : List (List Int)) (c : List Int → Bool) (v : Value) (us' : List Value) (k : Nat) : Prop where
  own : OwnSS wr W.heap.size wr.heap.size v us' (solTo c L k)
  new : ∀ b, v.ownBlock = some b → b < hi0 ∨ hi2 ≤ b
  src : ∀ j, j < us'.length → ∃ i, i < k ∧ val us' j = val us i
  lots : OwnSS wr hi0 hi2 lv us L
  box : Below W.heap.size W wr
  size : hi2 ≤ wr.heap.size
  base : W.heap.size ≤ hi0
section
variable {W : World} {hi0 hi2 : Nat} {wr : World} {lv : Value} {us : List Value} {L : List (List Int)} {c : List Int → Bool} {v : Value} {us' : List Value} {k : Nat}
theorem SolBu.on {w3 : World} (h : SolBu W hi0 hi2 wr lv us L c v us' k) (hb : Below wr.heap.size wr w3) : SolBu W hi0 hi2 w3 lv us L c v us' k :=
  ⟨h.own.onAll hb, h.new, h.src, h.lots.on hb, Below.on h.box hb, Nat.le_trans h.size hb.size, h.base⟩
theorem SolBu.pass (h : SolBu W hi0 hi2 wr lv us L c v us' k) (hc : c (row L k) = false) : SolBu W hi0 hi2 wr lv us L c v us' (k + 1) :=
  ⟨by rw [solTo_no hc]; exact h.own, h.new, fun j hj => by obtain ⟨i, hi, e⟩ := h.src j hj; exact ⟨i, by omega, e⟩, h.lots, h.box, h.size, h.base⟩
theorem SolBu.take {w4 : World} {v' : Value} (h : SolBu W hi0 hi2 wr lv us L c v us' k) (hk : k < us.length) (hc : c (row L k) = true)
    (ho : w4.ownsRow W.heap.size 22 1 v' (us' ++ [val us k]).length (us' ++ [val us k])) (hg : wr.grownBy w4 v.ownBlock) (hv : v'.ownBlock = v.ownBlock ∨ ∃ b, v'.ownBlock = some b ∧ wr.heap.size ≤ b) : SolBu W hi0 hi2 w4 lv us L c v' (us' ++ [val us k]) (k + 1) := by
  have hsz := h.size
  refine ⟨?_, fun b hb => ?_, fun j hj => ?_, ?_, h.box.grown hg h.box.size (fun b hb => (h.own.outer.lt b hb).1), Nat.le_trans h.size hg.size, h.base⟩
  · rw [solTo_yes hc]
    refine OwnSS.app h.own hg.size hg.size (Nat.le_refl _) (own_mono (h.lots.rows k hk) h.base) (fun j hj q h1 h2 => ?_) (fun q h1 h2 => ?_) ho hg hv
    · obtain ⟨i, hi, e⟩ := h.src j hj
      rw [e] at h1
      exact h.lots.apart i k hi hk q h1 h2
    · have := h.lots.his k hk q h1
      have := ((h.lots.rows k hk).lt q h1).1
      have := h.new q h2
      omega
  · rcases hv with hv | ⟨b', hv, hb'⟩
    · exact h.new b (by rw [← hv]; exact hb)
    · rw [hv] at hb; cases hb
      exact .inr (Nat.le_trans h.size hb')
  · simp at hj
    by_cases e : j < us'.length
    · obtain ⟨i, hi, e2⟩ := h.src j e
      exact ⟨i, by omega, by rw [val_app e]; exact e2⟩
    · obtain rfl : j = us'.length := by omega
      exact ⟨k, by omega, val_last⟩
  · exact h.lots.heap fun q h1 h2 => hg.block q (by omega) (fun e => by have := h.new q e.symm; omega)
end
def BtPost (p : Int) (g : List Int) (q : Int) (h : List Int) (w : World) (e : Ending) (w' : World) : Prop := ∃ v us, e = .returned v ∧ OwnSS w' w.heap.size w'.heap.size v us (btw p g q h) ∧ Below w.heap.size w w'
theorem ssg_ld {p : Int} {gv hv : Value} {g h x : List Int} {w : World} {r : Bool} (hr : leads g h x = r) (hg : Ints w gv (mov x g)) (hh : Ints w hv h) :
    Calls Try.prog 65 #[.agg #[.int .i64 p, gv], .agg #[.int .i64 p, hv]] w fun e w' => e = .returned (.bool r) ∧ Below w.heap.size w w' := ssg_is (by rw [← hr]; simp [leads]) hg hh
theorem ints_few {w : World} {v : Value} {xs : List Int} (h : Ints w v xs) : xs.length ≤ maxLen := by
  rcases h with ⟨_, rfl⟩ | ⟨_, _, _, hl, _⟩
  · simp
  · exact hl
theorem btB_no {p q : Int} {g h : List Int} (hb : btB p g q h = false) : gkB p g = false ∨ (gkB p g = true ∧ gkB q h = false) ∨ (gkB p g = true ∧ gkB q h = true ∧ p ≠ q) := by
  unfold btB at hb
  cases h1 : gkB p g
  · exact .inl rfl
  · cases h2 : gkB q h
    · exact .inr (.inl ⟨rfl, rfl⟩)
    · exact .inr (.inr ⟨rfl, rfl, fun e => by subst e; simp [h1, h2] at hb⟩)

set_option maxHeartbeats 1600000 in
theorem sbt_no (p q : Int) (gv hv : Value) (g h : List Int) (w : World) (hg : Ints w gv g) (hh : Ints w hv h) (hp : intIn p) (hq : intIn q) (hs : ∀ j, j < g.length → intIn (nth g j)) (hs' : ∀ j, j < h.length → intIn (nth h j)) (hb : btB p g q h = false) :
    Calls Try.prog 60 #[.agg #[.int .i64 p, gv], .agg #[.int .i64 q, hv]] w (BtPost p g q h w) := by
  obtain ⟨p0, p1, pl⟩ := boxes2 (P := [.int .i64 p, gv]) (R := [.int .i64 q, hv]) (below_grow ((w.alloc (.cells #[.int .i64 p, gv] 30)).alloc (.cells #[.int .i64 q, hv] 30)) (.cells #[] 22))
  have O0 := ownSS_none ((w.alloc (.cells #[.int .i64 p, gv] 30)).alloc (.cells #[.int .i64 q, hv] 30))
  have hz0 : ((w.alloc (.cells #[.int .i64 p, gv] 30)).alloc (.cells #[.int .i64 q, hv] 30)).heap.size = w.heap.size + 1 + 1 := by simp
  rw [hz0] at O0
  have O1 := Lib.hid (O0.lower (by omega : w.heap.size ≤ w.heap.size + 1 + 1))
  have HG := Lib.hid (show ∀ w', Below w.heap.size w w' → Ints w' gv g from fun w' hb => hg.below hb)
  have HH := Lib.hid (show ∀ w', Below w.heap.size w w' → Ints w' hv h from fun w' hb => hh.below hb)
  have HS := Lib.hid hs
  have HS' := Lib.hid hs'
  have HP := Lib.hid hp
  have HQ := Lib.hid hq
  have HX := Lib.hid (btw_no hb)
  have P0 := Lib.hid p0
  have P1 := Lib.hid p1
  have PL := Lib.hid pl
  have a0 := p0.cell 0
  have a1 := p0.cell 1
  simp at a0 a1
  clear hg hh hs hs' hp hq p0 p1 pl O0 hz0
  rcases btB_no hb with hk | ⟨hk, hk'⟩ | ⟨hk, hk', hne⟩
  · clear hb
    go_enter Try.func60, Try.ntmps60
    go_wp2_with fail
    refine (sgk_is hk (HG.out _ PL.out) HP.out HS.out).mono ?_
    rintro e w1 ⟨rfl, hb⟩
    have B1 := Lib.hid (Below.on PL.out hb)
    have O2 := Lib.hid (O1.out.onAll hb)
    clear hb a0 a1 hk
    go_wp2
    go_ret
    exact ⟨_, [], rfl, by rw [HX.out]; exact O2.out, B1.out⟩
  · clear hb
    go_enter Try.func60, Try.ntmps60
    go_wp2_with fail
    refine (sgk_is hk (HG.out _ PL.out) HP.out HS.out).mono ?_
    rintro e w1 ⟨rfl, hb⟩
    have B1 := Lib.hid (Below.on PL.out hb)
    have O2 := Lib.hid (O1.out.onAll hb)
    have r := P1.out.on hb
    have r0 := r.cell 0
    have r1 := r.cell 1
    simp at r0 r1
    clear hb a0 a1 hk r
    go_wp2_with fail
    refine (sgk_is hk' (HH.out _ B1.out) HQ.out HS'.out).mono ?_
    rintro e w2 ⟨rfl, hb⟩
    have B2 := Lib.hid (Below.on B1.out hb)
    have O3 := Lib.hid (O2.out.onAll hb)
    clear hb r0 r1 hk'
    go_wp2
    go_ret
    exact ⟨_, [], rfl, by rw [HX.out]; exact O3.out, B2.out⟩
  · have hd : (p == q) = false := by simp [hne]
    clear hb hne
    go_enter Try.func60, Try.ntmps60
    go_wp2_with fail
    refine (sgk_is hk (HG.out _ PL.out) HP.out HS.out).mono ?_
    rintro e w1 ⟨rfl, hb⟩
    have B1 := Lib.hid (Below.on PL.out hb)
    have O2 := Lib.hid (O1.out.onAll hb)
    have r := P1.out.on hb
    have P2 := Lib.hid (P0.out.on hb)
    have P3 := Lib.hid r
    have r0 := r.cell 0
    have r1 := r.cell 1
    simp at r0 r1
    clear hb a0 a1 hk r
    go_wp2_with fail
    refine (sgk_is hk' (HH.out _ B1.out) HQ.out HS'.out).mono ?_
    rintro e w2 ⟨rfl, hb⟩
    have B2 := Lib.hid (Below.on B1.out hb)
    have O3 := Lib.hid (O2.out.onAll hb)
    have a0 := (P2.out.on hb).cell 0
    have r0' := (P3.out.on hb).cell 0
    simp at a0 r0'
    clear hb r0 r1 hk'
    go_wp2
    go_ret
    exact ⟨_, [], rfl, by rw [HX.out]; exact O3.out, B2.out⟩

/-- A world behind the walk's, and (when it is made) a list of numbers in it. -/
def Mz (wo : World) (M : List Int) (z : Option Value) (w' : World) : Prop := Below wo.heap.size wo w' ∧ ∀ v, z = some v → Ints w' v M
set_option maxRecDepth 20000 in
set_option maxHeartbeats 4800000 in
theorem sbt_yes (m : Nat) (gv hv : Value) (g h : List Int) (w : World) (hg : Ints w gv g) (hh : Ints w hv h) (hp : intIn (m : Int)) (hs : ∀ j, j < g.length → intIn (nth g j)) (hs' : ∀ j, j < h.length → intIn (nth h j)) (hb : btB m g m h = true) :
    Calls Try.prog 60 #[.agg #[.int .i64 m, gv], .agg #[.int .i64 m, hv]] w (BtPost m g m h w) := by
  obtain ⟨p0, p1, pl⟩ := boxes2 (P := [.int .i64 m, gv]) (R := [.int .i64 m, hv]) (below_grow ((w.alloc (.cells #[.int .i64 m, gv] 30)).alloc (.cells #[.int .i64 m, hv] 30)) (.cells #[] 22))
  obtain ⟨q0, q1, ql⟩ := boxes2 (P := [.int .i64 m, gv]) (R := [.int .i64 m, hv]) (Below.refl ((w.alloc (.cells #[.int .i64 m, gv] 30)).alloc (.cells #[.int .i64 m, hv] 30)).heap.size _)
  have O0 := ownSS_none ((w.alloc (.cells #[.int .i64 m, gv] 30)).alloc (.cells #[.int .i64 m, hv] 30))
  have HB0 := below_grow ((w.alloc (.cells #[.int .i64 m, gv] 30)).alloc (.cells #[.int .i64 m, hv] 30)) (.cells #[] 22)
  have hz0 : ((w.alloc (.cells #[.int .i64 m, gv] 30)).alloc (.cells #[.int .i64 m, hv] 30)).heap.size = w.heap.size + 1 + 1 := by simp
  have HIB : Hid (∃ W : World, W.heap.size = w.heap.size + 1 + 1 ∧ Below w.heap.size w W ∧ Box W w.heap.size [.int .i64 m, gv] ∧ Box W (w.heap.size + 1) [.int .i64 m, hv] ∧ Below W.heap.size W (((w.alloc (.cells #[.int .i64 m, gv] 30)).alloc (.cells #[.int .i64 m, hv] 30)).alloc (.cells #[] 22)) ∧
      OwnSS (((w.alloc (.cells #[.int .i64 m, gv] 30)).alloc (.cells #[.int .i64 m, hv] 30)).alloc (.cells #[] 22)) W.heap.size (((w.alloc (.cells #[.int .i64 m, gv] 30)).alloc (.cells #[.int .i64 m, hv] 30)).alloc (.cells #[] 22)).heap.size (.slice (some ⟨W.heap.size, 0, none⟩) 0 0) [] []) := Lib.hid ⟨_, hz0, ql, q0, q1, HB0, O0⟩
  clear q0 q1 ql O0 HB0 hz0
  obtain ⟨W, hW, hWw, W0, W1, hWb, hWo⟩ := HIB.out
  have HW := Lib.hid hW
  have HWW := Lib.hid hWw
  have BX0 := Lib.hid W0
  have BX1 := Lib.hid W1
  have I1 := Lib.hid hWb
  have O1 := Lib.hid hWo
  clear HIB hW hWw W0 W1 hWb hWo
  have HG := Lib.hid (show ∀ w', Below W.heap.size W w' → Ints w' gv g from fun w' hb => (hg.below HWW.out).below hb)
  have HH := Lib.hid (show ∀ w', Below W.heap.size W w' → Ints w' hv h from fun w' hb => (hh.below HWW.out).below hb)
  have HS := Lib.hid hs
  have HS' := Lib.hid hs'
  have HP := Lib.hid hp
  have HX := Lib.hid (btw_yes hb)
  have hbt := btB_true.1 hb
  have HGK := Lib.hid hbt.1
  have HFEW := Lib.hid (ints_few hg)
  have HM5 : Hid (1 ≤ m ∧ m ≤ 5) := Lib.hid (by have := hbt.1.p1; have := hbt.1.p5; omega)
  have hk := gkB_true.2 hbt.1
  have hk' := gkB_true.2 hbt.2.1
  have a0 := p0.cell 0
  have a1 := p0.cell 1
  simp at a0 a1
  obtain ⟨L, hL⟩ : ∃ L, ords m = L := ⟨_, rfl⟩
  have HO : Hid (∀ w, Calls Try.prog 43 #[.int .i64 m] w fun e w' => ∃ v us, e = .returned v ∧ OwnSS w' w.heap.size w'.heap.size v us L ∧ Full us ∧ Below w.heap.size w w') := Lib.hid (by rw [← hL]; exact fun w => sords_any m w HM5.out.2)
  have HLL : Hid (∀ k, k < L.length → Od (row L k) m ∧ (row L k).length = m) := Lib.hid fun k hk => by
    rw [← hL] at hk ⊢
    exact ⟨(ords_mem HM5.out.1 HM5.out.2).1 (row_mem hk), ordTo_row hk⟩
  have HL3 : Hid (L.length ≤ 3125) := Lib.hid (by rw [← hL]; exact ordTo_few HM5.out.2 HM5.out.2)
  have HX2 : Hid (btw m g m h = solTo (leads g h) L L.length) := Lib.hid (by rw [HX.out, ← hL]; simp [btwL])
  obtain ⟨n, hn⟩ : ∃ n, L.length = n := ⟨_, rfl⟩
  have HN := Lib.hid hn
  rw [hn] at HX2 HL3 HLL
  clear hL hn hbt hb hg hh hs hs' hp p0 p1 pl HX
  go_enter Try.func60, Try.ntmps60
  go_wp2_with fail
  refine (sgk_is hk (HG.out _ I1.out) HP.out HS.out).mono ?_
  rintro e w1 ⟨rfl, hb⟩
  have I2 := Lib.hid (Below.on I1.out hb)
  have O2 := Lib.hid (O1.out.onAll hb)
  clear hb a0 a1 hk
  have r := BX1.out.on I2.out
  have r0 := r.cell 0
  have r1 := r.cell 1
  simp at r0 r1
  clear r
  go_wp2_with fail
  refine (sgk_is hk' (HH.out _ I2.out) HP.out HS'.out).mono ?_
  rintro e w2 ⟨rfl, hb⟩
  have I3 := Lib.hid (Below.on I2.out hb)
  have O3 := Lib.hid (O2.out.onAll hb)
  clear hb r0 r1 hk'
  have a0 := (BX0.out.on I3.out).cell 0
  have r0 := (BX1.out.on I3.out).cell 0
  simp at a0 r0
  have hd : ((m : Int) == m) = true := by simp
  go_wp2_with fail
  refine (HO.out w2).mono ?_
  rintro e w3 ⟨lv, us, rfl, ho, hful, hb⟩
  have SB : Hid (SolBu W w2.heap.size w3.heap.size w3 lv us L (leads g h) (.slice (some ⟨W.heap.size, 0, none⟩) 0 0) [] 0) := Lib.hid
    ⟨O3.out.onAll hb, fun b hb' => .inl (O3.out.hi0 b hb'), fun j hj => by simp at hj, ho, Below.on I3.out hb, Nat.le_refl _, I3.out.size⟩
  rw [HW.out] at SB
  obtain ⟨a, c, hlv⟩ := OwnSS.form ho
  rw [HN.out] at hlv
  subst hlv
  have HUL : Hid (us.length = n) := Lib.hid (by rw [ho.len]; exact HN.out)
  have HFL := Lib.hid hful
  clear ho hb hful a0 r0 hd O1 O2 O3 I1 I2
  go_wp2
  go_loopw [5, 7] (fun v i wr => ∃ k : Nat, k ≤ n ∧ i = .int .i64 k ∧ Hid (∃ us', SolBu W w2.heap.size w3.heap.size wr (.slice a n c) us L (leads g h) v us' k)) (fun _ i _ => n - (intOf i).toNat)
  case atStart => exact ⟨0, by omega, rfl, Lib.hid ⟨[], SB.out⟩⟩
  case round =>
    obtain ⟨k, hk, rfl, hS⟩ := hrel
    obtain ⟨wo, rfl⟩ : ∃ wo : World, wo = wr := ⟨_, rfl⟩
    obtain ⟨us', hs⟩ := hS.out
    clear SB
    have h600 := HL3.out
    by_cases hlt : k < n
    · have hlt1 : (k : Int) < (n : Int) := by omega
      have hku : k < us.length := by rw [HUL.out]; exact hlt
      obtain ⟨a', c', ea, hcell⟩ := outer_cell hs.lots.outer
      rw [HUL.out] at ea
      cases ea
      obtain ⟨G0, rfl, hG0, hck⟩ := hcell k hku
      obtain ⟨ug, un, uc, hu⟩ := HFL.out k hku
      have HC : Hid (∀ w', Below wo.heap.size wo w' → w'.cell? ⟨G0, k, none⟩ = some (.slice (some ⟨ug, 0, none⟩) un uc)) := Lib.hid fun w' hb => (hb.cell (p := ⟨G0, k, none⟩) hG0).trans (hck.trans (by rw [hu]))
      have HSU := Lib.hid hs
      have HE : Hid (∀ w', Below wo.heap.size wo w' → Ints w' (.slice (some ⟨ug, 0, none⟩) un uc) (row L k)) := Lib.hid fun w' hb => by
        have := (Ints.of_own (HSU.out.lots.rows k hku) (by have := (HLL.out k hlt).2; have := HM5.out.2; unfold maxLen; omega)).below hb
        rwa [hu] at this
      have hsl := solTo_len (leads g h) L k
      have hll := hs.own.len
      have HU := Lib.hid hu
      have HBX := Lib.hid hs.box
      have HBD : Hid (Mz wo (mov (row L k) g) none wo.drew) := Lib.hid ⟨(Below.refl _ _).drew, fun v e => by cases e⟩
      have HOD := Lib.hid (HLL.out k hlt).1
      clear hs hS hcell hck hu
      cases hsv : leads g h (row L k)
      all_goals
        have HV := Lib.hid hsv
        clear hsv
        go_wp2_with fail
        apply wp_region_H (Z := Option Value) (S := fun k => k == 5 || k == 7) (C := fun z w' => Hid (Mz wo (mov (row L k) g) z w')) [0, 1, 2, 3, 4, 6] none
        · kernel_rfl
        · kernel_rfl
        · kernel_rfl
        · exact ⟨rfl, rfl, rfl, rfl, rfl, rfl, trivial⟩
        · rfl
        · decide
        · exact HBD
        · intro zz
          dsimp only [pickL, nthO]
          repeat (first | go_big_quiet_skip | (go_big_quiet_want; go_big_quiet_op; first | go_big_quiet_on | (refine ⟨_, fun _ _ => rfl, ?_⟩; go_big_quiet_on)))
          go_big_quiet_want
          go_big_quiet_op
          refine ⟨.agg #[.int .i64 m, gv], fun w' hw' => ?_, ?_⟩
          · have q := BX0.out.on (Below.on HBX.out hw'.out.1)
            have q0 := q.cell 0
            have q1 := q.cell 1
            simp at q0 q1
            simp [go_sem, q0, q1]
          go_big_quiet_on
          repeat (first | go_big_quiet_skip | (go_big_quiet_want; go_big_quiet_op; first | go_big_quiet_on | (refine ⟨_, fun _ _ => rfl, ?_⟩; go_big_quiet_on)))
          go_big_quiet_want
          go_big_quiet_op
          refine ⟨.slice (some ⟨ug, 0, none⟩) un uc, fun w' hw' => ?_, ?_⟩
          · have q := HC.out w' hw'.out.1
            simp [go_sem, q]
          go_big_quiet_on
          repeat (first | go_big_quiet_skip | (go_big_quiet_want; go_big_quiet_op; first | go_big_quiet_on | (refine ⟨_, fun _ _ => rfl, ?_⟩; go_big_quiet_on)))
          go_big_quiet_want
          go_big_quiet_op
          refine ⟨.agg #[.int .i64 m, hv], fun w' hw' => ?_, ?_⟩
          · have q := BX1.out.on (Below.on HBX.out hw'.out.1)
            have q0 := q.cell 0
            have q1 := q.cell 1
            simp at q0 q1
            simp [go_sem, q0, q1]
          go_big_quiet_on
          repeat (first | go_big_quiet_skip | (go_big_quiet_want; go_big_quiet_op; first | go_big_quiet_on | (refine ⟨_, fun _ _ => rfl, ?_⟩; go_big_quiet_on)))
          exact wpQuiet_nil rfl
        · refine wpAnyH_call (i := 5) (d := some 39) 44 #[.agg #[.int .i64 m, gv], .slice (some ⟨ug, 0, none⟩) un uc] rfl (by kernel_rfl) rfl rfl (by kernel_rfl) (fun _ => by kernel_rfl) fun wa hc => ?_
          refine (smov_any m gv (.slice (some ⟨ug, 0, none⟩) un uc) g (row L k) wa (HG.out _ (Below.on HBX.out hc.out.1)) (HE.out _ hc.out.1) HGK.out HOD.out).mono ?_
          rintro e wc ⟨mv, rfl, om, hb⟩
          refine ⟨_, rfl, some mv, Lib.hid ⟨Below.on hc.out.1 hb, fun v e => by cases e; exact Ints.of_own om (by rw [mov_len HOD.out HGK.out]; exact HFEW.out)⟩, ?_⟩
          clear hc om hb
          refine wpAnyH_call (i := 7) (d := some 41) 65 #[.agg #[.int .i64 m, mv], .agg #[.int .i64 m, hv]] rfl (by kernel_rfl) rfl rfl (by kernel_rfl) (fun _ => by kernel_rfl) fun wd hc => ?_
          refine (ssg_ld HV.out (hc.out.2 mv rfl) (HH.out _ (Below.on HBX.out hc.out.1))).mono ?_
          rintro e we ⟨rfl, hb⟩
          refine ⟨_, rfl, none, Lib.hid ⟨Below.on hc.out.1 hb, fun v e => by cases e⟩, ?_⟩
          clear hc hb
          refine ⟨by kernel_rfl, fun w4 hw4 => ?_⟩
          simp only [Act.put, List.setIfInBounds_toArray, List.set_cons_succ, List.set_cons_zero]
          have S3 := Lib.hid (HSU.out.on hw4.out.1)
          have hc3 := HC.out w4 hw4.out.1
          clear hw4 HSU HBD HE HBX
          first
            | (have S4 : Hid (∃ us', SolBu W w2.heap.size w3.heap.size w4 (.slice (some ⟨G0, 0, none⟩) n c) us L (leads g h) u5 us' (k + 1)) := Lib.hid ⟨_, S3.out.pass HV.out⟩
               clear hc3 S3
               go_wp2
               go_roundw
               case rel => exact ⟨k + 1, by omega, by go_num, S4⟩
               case measure => simp [intOf]; omega)
            | (have hou := S3.out.own.outer
               have hb3 : W.heap.size ≤ w4.heap.size := S3.out.box.size
               go_wp2_with (at_builtin; refine wpAppRow rfl _ _ rfl rfl hou (by omega) hb3 rfl rfl ?_)
               intro v4 w5 o4 g4 k4
               have S4 : Hid (∃ us', SolBu W w2.heap.size w3.heap.size w5 (.slice (some ⟨G0, 0, none⟩) n c) us L (leads g h) v4 us' (k + 1)) := Lib.hid ⟨_, S3.out.take hku HV.out (by rw [HU.out]; simpa [hll] using o4) g4 k4⟩
               clear o4 g4 k4 hou S3 hc3 hb3
               go_wp2
               go_roundw
               case rel => exact ⟨k + 1, by omega, by go_num, S4⟩
               case measure => simp [intOf]; omega)
    · obtain rfl : k = n := by omega
      have O5 : Hid (∃ us', OwnSS wo w.heap.size wo.heap.size u5 us' (btw m g m h)) := Lib.hid ⟨us', by rw [HX2.out]; exact hs.own.lower (by rw [HW.out]; omega)⟩
      have B5 : Hid (Below w.heap.size w wo) := Lib.hid (HWW.out.trans (hs.box.mono HWW.out.size))
      clear hs hS
      go_wp2
      go_ret
      obtain ⟨us5, o5⟩ := O5.out
      exact ⟨_, us5, rfl, o5, B5.out⟩
theorem sbt_any (p q : Int) (gv hv : Value) (g h : List Int) (w : World) (hg : Ints w gv g) (hh : Ints w hv h) (hp : intIn p) (hq : intIn q) (hs : ∀ j, j < g.length → intIn (nth g j)) (hs' : ∀ j, j < h.length → intIn (nth h j)) :
    Calls Try.prog 60 #[.agg #[.int .i64 p, gv], .agg #[.int .i64 q, hv]] w (BtPost p g q h w) := by
  cases hb : btB p g q h
  · exact sbt_no p q gv hv g h w hg hh hp hq hs hs' hb
  · obtain ⟨h1, h2, rfl⟩ := btB_true.1 hb
    obtain ⟨m, rfl⟩ : ∃ m : Nat, p = m := ⟨p.toNat, by have := h1.p1; omega⟩
    exact sbt_yes m gv hv g h w hg hh hp hs hs' hb
end Go.Proofs.Ytlcegpmhlnilfaa

/- spec: TurnOk. -/
namespace Go.Proofs.Ytlcegpmhlnilfaa
open Go.RowKit

theorem boxes4 {w : World} (P R O Q : List Value) (T1 T2 T3 T4 : TypeId) : Hid (∃ W : World, W = (((w.alloc (.cells P.toArray T1)).alloc (.cells R.toArray T2)).alloc (.cells O.toArray T3)).alloc (.cells Q.toArray T4) ∧
    Below w.heap.size w W ∧ Box W w.heap.size P ∧ Box W (w.heap.size + 1) R ∧ Box W (w.heap.size + 1 + 1) O ∧ Box W (w.heap.size + 1 + 1 + 1) Q) := by
  have h1 := Box.made w P T1
  have h2 := Box.made (w.alloc (.cells P.toArray T1)) R T2
  have h3 := Box.made ((w.alloc (.cells P.toArray T1)).alloc (.cells R.toArray T2)) O T3
  have h4 := Box.made (((w.alloc (.cells P.toArray T1)).alloc (.cells R.toArray T2)).alloc (.cells O.toArray T3)) Q T4
  rw [show (w.alloc (.cells P.toArray T1)).heap.size = w.heap.size + 1 by simp] at h2
  rw [show ((w.alloc (.cells P.toArray T1)).alloc (.cells R.toArray T2)).heap.size = w.heap.size + 1 + 1 by simp] at h3
  rw [show (((w.alloc (.cells P.toArray T1)).alloc (.cells R.toArray T2)).alloc (.cells O.toArray T3)).heap.size = w.heap.size + 1 + 1 + 1 by simp] at h4
  exact Lib.hid ⟨_, rfl, (below_grow w _).trans (((below_grow _ _).mono (by simp)).trans (((below_grow _ _).mono (by simp; omega)).trans ((below_grow _ _).mono (by simp; omega)))), ((h1.alloc _).alloc _).alloc _, (h2.alloc _).alloc _, h3.alloc _, h4⟩
/-- A world behind W, and (when it is made) a list of numbers in it. -/
def My (W : World) (M : List Int) (z : Option Value) (w' : World) : Prop := Below W.heap.size W w' ∧ ∀ v, z = some v → Ints w' v M
theorem few_of {w : World} {v : Value} {xs : List Int} (h : Ints w v xs) : xs.length ≤ maxLen := by
  rcases h with ⟨_, rfl⟩ | ⟨_, _, _, hl, _⟩
  · simp
  · exact hl
theorem tkT_no {p q sp ask : Int} {g h se tell : List Int} (k : mdT p g q h ask tell = false) : tkT p g q h sp se ask tell = false := by simp [tkT, k]

end Go.Proofs.Ytlcegpmhlnilfaa

/- spec: TurnMade. -/
namespace Go.Proofs.Ytlcegpmhlnilfaa
open Go.RowKit

theorem boxes3w {w : World} (P R O : List Value) (T1 T2 T3 : TypeId) : Hid (∃ W : World, W = ((w.alloc (.cells P.toArray T1)).alloc (.cells R.toArray T2)).alloc (.cells O.toArray T3) ∧ W.heap.size = w.heap.size + 1 + 1 + 1 ∧
    Below w.heap.size w W ∧ Box W w.heap.size P ∧ Box W (w.heap.size + 1) R ∧ Box W (w.heap.size + 1 + 1) O) := by
  obtain ⟨h1, h2, h3, h4⟩ := boxes3 (w := w) (P := P) (R := R) (O := O) (T1 := T1) (T2 := T2) (T3 := T3) (Below.refl _ _)
  exact Lib.hid ⟨_, rfl, by simp, h4, h1, h2, h3⟩
theorem below_set4 {w w1 : World} {N : Nat} {x y z t : Value} (h : Below w.heap.size w w1) (hN : w.heap.size ≤ N) : Below w.heap.size w ((((w1.setCell ⟨N, 0, none⟩ x).setCell ⟨N, 1, none⟩ y).setCell ⟨N, 2, none⟩ z).setCell ⟨N, 3, none⟩ t) := (((h.setCell hN _).setCell hN _).setCell hN _).setCell hN _
theorem own_set4 {w1 : World} {N B B' : Nat} {v x y z t : Value} {xs : List Int} (h : Own w1 B v xs) (n1 : N < B) (hB : B' ≤ B) : Own ((((w1.setCell ⟨N, 0, none⟩ x).setCell ⟨N, 1, none⟩ y).setCell ⟨N, 2, none⟩ z).setCell ⟨N, 3, none⟩ t) B' v xs := by
  have hh : ∀ (w : World) (j : Nat) (y : Value), Own w B v xs → Own (w.setCell ⟨N, j, none⟩ y) B v xs := fun w j y h => own_heap h fun b hb => Below.heap_setCell _ _ _ _ (by have := (h.lt b hb).1; show b ≠ N; omega)
  exact own_mono (hh _ _ _ (hh _ _ _ (hh _ _ _ (hh _ _ _ h)))) hB
def TrnPost (w : World) (sp : Int) (S : List Int) (ask : Int) (tl : List Int) (b : Bool) (e : Ending) (w' : World) : Prop :=
  ∃ v u, e = .returned (.tuple #[.agg #[.int .i64 sp, v, .int .i64 ask, u], .bool b]) ∧ Own w' w.heap.size v S ∧ Own w' w.heap.size u tl ∧ (∀ k, v.ownBlock = some k → u.ownBlock = some k → False) ∧ Below w.heap.size w w'
def MdPost (p : Int) (g : List Int) (q : Int) (h : List Int) (ask : Int) (tell : List Int) (w : World) (e : Ending) (w' : World) : Prop :=
  if mdT p g q h ask tell then TrnPost w p (mov tell (frm ask g h)) ask tell true e w' else TrnPost w 0 [] 0 [] false e w'

set_option maxRecDepth 20000 in
set_option maxHeartbeats 800000 in
theorem stmd_no (p q ask : Int) (ga ha : Option Addr) (gn gc hn hk : Nat) (tv : Value) (g h tell : List Int) (w : World) (hg : Ints w (.slice ga gn gc) g) (hh : Ints w (.slice ha hn hk) h) (ht : Ints w tv tell) (hp : intIn p) (hq : intIn q) (hs : ∀ j, j < g.length → intIn (nth g j)) (hs' : ∀ j, j < h.length → intIn (nth h j)) (hb : mdT p g q h ask tell = false) :
    Calls Try.prog 57 #[.agg #[.int .i64 p, (.slice ga gn gc)], .agg #[.int .i64 q, (.slice ha hn hk)], .int .i64 ask, tv] w (MdPost p g q h ask tell w) := by
  have HB3 := boxes3w (w := w) [.int .i64 p, (.slice ga gn gc)] [.int .i64 q, (.slice ha hn hk)] [.int .i64 0, .slice none 0 0, .int .i64 0, .slice none 0 0] 30 30 60
  obtain ⟨W, hWe, hWs, hW, b0, b1, b2⟩ := HB3.out
  have B0 : Hid (Below W.heap.size W (((w.alloc (.cells #[.int .i64 p, (.slice ga gn gc)] 30)).alloc (.cells #[.int .i64 q, (.slice ha hn hk)] 30)).alloc (.cells #[.int .i64 0, .slice none 0 0, .int .i64 0, .slice none 0 0] 60))) := Lib.hid (by rw [hWe]; exact Below.refl _ _)
  have HW := Lib.hid hW
  have HWS := Lib.hid hWs
  have BG := Lib.hid b0
  have BH := Lib.hid b1
  have BO := Lib.hid b2
  have HG := Lib.hid (show ∀ w', Below W.heap.size W w' → Ints w' (.slice ga gn gc) g from fun w' hb => (hg.below hW).below hb)
  have HH := Lib.hid (show ∀ w', Below W.heap.size W w' → Ints w' (.slice ha hn hk) h from fun w' hb => (hh.below hW).below hb)
  have HT := Lib.hid (show ∀ w', Below W.heap.size W w' → Ints w' tv tell from fun w' hb => (ht.below hW).below hb)
  have HSG := Lib.hid hs
  have HSH := Lib.hid hs'
  have HP := Lib.hid hp
  have HQ := Lib.hid hq
  have FIN : Hid (∀ w', Below W.heap.size W w' → Below w.heap.size w w') := Lib.hid fun w' hb => hW.trans (hb.mono hW.size)
  clear HB3 hWe hWs hW b0 b1 b2 hg hh ht hs hs' hp hq
  cases k1 : gkB p g
  · have HX := Lib.hid (show mdT p g q h ask tell = false by exact hb)
    have cg0 := (BG.out.on B0.out).cell 0
    have cg1 := (BG.out.on B0.out).cell 1
    have ch0 := (BH.out.on B0.out).cell 0
    have ch1 := (BH.out.on B0.out).cell 1
    simp at cg0 cg1 ch0 ch1
    go_enter Try.func57, Try.ntmps57
    go_wp2_with fail
    refine (sgk_is k1 (HG.out _ B0.out) HP.out HSG.out).mono ?_
    rintro e w1 ⟨rfl, hb⟩
    have B1 := Lib.hid (Below.on B0.out hb)
    clear cg0 cg1 ch0 ch1
    clear hb
    have cg0 := (BG.out.on B1.out).cell 0
    have cg1 := (BG.out.on B1.out).cell 1
    have ch0 := (BH.out.on B1.out).cell 0
    have ch1 := (BH.out.on B1.out).cell 1
    simp at cg0 cg1 ch0 ch1
    have co0 := (BO.out.on B1.out).cell 0
    have co1 := (BO.out.on B1.out).cell 1
    have co2 := (BO.out.on B1.out).cell 2
    have co3 := (BO.out.on B1.out).cell 3
    simp at co0 co1 co2 co3
    have f0 := (BO.out.on B1.out).frozen 0
    have f1 := (BO.out.on B1.out).frozen 1
    have f2 := (BO.out.on B1.out).frozen 2
    have f3 := (BO.out.on B1.out).frozen 3
    have FF := Lib.hid (FIN.out _ B1.out)
    go_wp2
    refine bodyPost_ret (v := .tuple #[.agg #[.int .i64 0, .slice none 0 0, .int .i64 0, .slice none 0 0], .bool false]) ?_ rfl ?_
    · simp [results, Try.results57, go_sem, co0, co1, co2, co3]
    · unfold MdPost
      rw [HX.out]
      exact ⟨_, _, rfl, World.ownsRow_nil _ _ _ _, World.ownsRow_nil _ _ _ _, fun k hk => (by cases hk), (by first | exact below_set4 FF.out (by omega) | exact FF.out)⟩
  cases k2 : gkB q h
  · have HX := Lib.hid (show mdT p g q h ask tell = false by exact hb)
    have cg0 := (BG.out.on B0.out).cell 0
    have cg1 := (BG.out.on B0.out).cell 1
    have ch0 := (BH.out.on B0.out).cell 0
    have ch1 := (BH.out.on B0.out).cell 1
    simp at cg0 cg1 ch0 ch1
    go_enter Try.func57, Try.ntmps57
    go_wp2_with fail
    refine (sgk_is k1 (HG.out _ B0.out) HP.out HSG.out).mono ?_
    rintro e w1 ⟨rfl, hb⟩
    have B1 := Lib.hid (Below.on B0.out hb)
    clear cg0 cg1 ch0 ch1
    clear hb
    have cg0 := (BG.out.on B1.out).cell 0
    have cg1 := (BG.out.on B1.out).cell 1
    have ch0 := (BH.out.on B1.out).cell 0
    have ch1 := (BH.out.on B1.out).cell 1
    simp at cg0 cg1 ch0 ch1
    go_wp2_with fail
    refine (sgk_is k2 (HH.out _ B1.out) HQ.out HSH.out).mono ?_
    rintro e w2 ⟨rfl, hb⟩
    have B2 := Lib.hid (Below.on B1.out hb)
    clear cg0 cg1 ch0 ch1
    clear hb
    have cg0 := (BG.out.on B2.out).cell 0
    have cg1 := (BG.out.on B2.out).cell 1
    have ch0 := (BH.out.on B2.out).cell 0
    have ch1 := (BH.out.on B2.out).cell 1
    simp at cg0 cg1 ch0 ch1
    have co0 := (BO.out.on B2.out).cell 0
    have co1 := (BO.out.on B2.out).cell 1
    have co2 := (BO.out.on B2.out).cell 2
    have co3 := (BO.out.on B2.out).cell 3
    simp at co0 co1 co2 co3
    have f0 := (BO.out.on B2.out).frozen 0
    have f1 := (BO.out.on B2.out).frozen 1
    have f2 := (BO.out.on B2.out).frozen 2
    have f3 := (BO.out.on B2.out).frozen 3
    have FF := Lib.hid (FIN.out _ B2.out)
    go_wp2
    refine bodyPost_ret (v := .tuple #[.agg #[.int .i64 0, .slice none 0 0, .int .i64 0, .slice none 0 0], .bool false]) ?_ rfl ?_
    · simp [results, Try.results57, go_sem, co0, co1, co2, co3]
    · unfold MdPost
      rw [HX.out]
      exact ⟨_, _, rfl, World.ownsRow_nil _ _ _ _, World.ownsRow_nil _ _ _ _, fun k hk => (by cases hk), (by first | exact below_set4 FF.out (by omega) | exact FF.out)⟩
  by_cases hpq : p = q
  rotate_left
  · have HX := Lib.hid (show mdT p g q h ask tell = false by exact hb)
    have hd : (p == q) = false := by simp [hpq]
    have hd2 : (p != q) = true := by simp [hpq]
    clear hpq
    have cg0 := (BG.out.on B0.out).cell 0
    have cg1 := (BG.out.on B0.out).cell 1
    have ch0 := (BH.out.on B0.out).cell 0
    have ch1 := (BH.out.on B0.out).cell 1
    simp at cg0 cg1 ch0 ch1
    go_enter Try.func57, Try.ntmps57
    go_wp2_with fail
    refine (sgk_is k1 (HG.out _ B0.out) HP.out HSG.out).mono ?_
    rintro e w1 ⟨rfl, hb⟩
    have B1 := Lib.hid (Below.on B0.out hb)
    clear cg0 cg1 ch0 ch1
    clear hb
    have cg0 := (BG.out.on B1.out).cell 0
    have cg1 := (BG.out.on B1.out).cell 1
    have ch0 := (BH.out.on B1.out).cell 0
    have ch1 := (BH.out.on B1.out).cell 1
    simp at cg0 cg1 ch0 ch1
    go_wp2_with fail
    refine (sgk_is k2 (HH.out _ B1.out) HQ.out HSH.out).mono ?_
    rintro e w2 ⟨rfl, hb⟩
    have B2 := Lib.hid (Below.on B1.out hb)
    clear cg0 cg1 ch0 ch1
    clear hb
    have cg0 := (BG.out.on B2.out).cell 0
    have cg1 := (BG.out.on B2.out).cell 1
    have ch0 := (BH.out.on B2.out).cell 0
    have ch1 := (BH.out.on B2.out).cell 1
    simp at cg0 cg1 ch0 ch1
    have co0 := (BO.out.on B2.out).cell 0
    have co1 := (BO.out.on B2.out).cell 1
    have co2 := (BO.out.on B2.out).cell 2
    have co3 := (BO.out.on B2.out).cell 3
    simp at co0 co1 co2 co3
    have f0 := (BO.out.on B2.out).frozen 0
    have f1 := (BO.out.on B2.out).frozen 1
    have f2 := (BO.out.on B2.out).frozen 2
    have f3 := (BO.out.on B2.out).frozen 3
    have FF := Lib.hid (FIN.out _ B2.out)
    go_wp2
    refine bodyPost_ret (v := .tuple #[.agg #[.int .i64 0, .slice none 0 0, .int .i64 0, .slice none 0 0], .bool false]) ?_ rfl ?_
    · simp [results, Try.results57, go_sem, co0, co1, co2, co3]
    · unfold MdPost
      rw [HX.out]
      exact ⟨_, _, rfl, World.ownsRow_nil _ _ _ _, World.ownsRow_nil _ _ _ _, fun k hk => (by cases hk), (by first | exact below_set4 FF.out (by omega) | exact FF.out)⟩
  subst hpq
  have hd : (p == p) = true := by simp
  cases k3 : odB tell p
  · have HX := Lib.hid (show mdT p g p h ask tell = false by exact hb)
    have cg0 := (BG.out.on B0.out).cell 0
    have cg1 := (BG.out.on B0.out).cell 1
    have ch0 := (BH.out.on B0.out).cell 0
    have ch1 := (BH.out.on B0.out).cell 1
    simp at cg0 cg1 ch0 ch1
    go_enter Try.func57, Try.ntmps57
    go_wp2_with fail
    refine (sgk_is k1 (HG.out _ B0.out) HP.out HSG.out).mono ?_
    rintro e w1 ⟨rfl, hb⟩
    have B1 := Lib.hid (Below.on B0.out hb)
    clear cg0 cg1 ch0 ch1
    clear hb
    have cg0 := (BG.out.on B1.out).cell 0
    have cg1 := (BG.out.on B1.out).cell 1
    have ch0 := (BH.out.on B1.out).cell 0
    have ch1 := (BH.out.on B1.out).cell 1
    simp at cg0 cg1 ch0 ch1
    go_wp2_with fail
    refine (sgk_is k2 (HH.out _ B1.out) HQ.out HSH.out).mono ?_
    rintro e w2 ⟨rfl, hb⟩
    have B2 := Lib.hid (Below.on B1.out hb)
    clear cg0 cg1 ch0 ch1
    clear hb
    have cg0 := (BG.out.on B2.out).cell 0
    have cg1 := (BG.out.on B2.out).cell 1
    have ch0 := (BH.out.on B2.out).cell 0
    have ch1 := (BH.out.on B2.out).cell 1
    simp at cg0 cg1 ch0 ch1
    go_wp2_with fail
    refine (sod_is k3 (HT.out _ B2.out)).mono ?_
    rintro e w3 ⟨rfl, hb⟩
    have B3 := Lib.hid (Below.on B2.out hb)
    clear cg0 cg1 ch0 ch1
    clear hb
    have cg0 := (BG.out.on B3.out).cell 0
    have cg1 := (BG.out.on B3.out).cell 1
    have ch0 := (BH.out.on B3.out).cell 0
    have ch1 := (BH.out.on B3.out).cell 1
    simp at cg0 cg1 ch0 ch1
    have co0 := (BO.out.on B3.out).cell 0
    have co1 := (BO.out.on B3.out).cell 1
    have co2 := (BO.out.on B3.out).cell 2
    have co3 := (BO.out.on B3.out).cell 3
    simp at co0 co1 co2 co3
    have f0 := (BO.out.on B3.out).frozen 0
    have f1 := (BO.out.on B3.out).frozen 1
    have f2 := (BO.out.on B3.out).frozen 2
    have f3 := (BO.out.on B3.out).frozen 3
    have FF := Lib.hid (FIN.out _ B3.out)
    go_wp2
    refine bodyPost_ret (v := .tuple #[.agg #[.int .i64 0, .slice none 0 0, .int .i64 0, .slice none 0 0], .bool false]) ?_ rfl ?_
    · simp [results, Try.results57, go_sem, co0, co1, co2, co3]
    · unfold MdPost
      rw [HX.out]
      exact ⟨_, _, rfl, World.ownsRow_nil _ _ _ _, World.ownsRow_nil _ _ _ _, fun k hk => (by cases hk), (by first | exact below_set4 FF.out (by omega) | exact FF.out)⟩
  cases k4 : (decide (0 ≤ ask) && decide (ask ≤ 1))
  · have HX := Lib.hid (show mdT p g p h ask tell = false by exact hb)
    have cg0 := (BG.out.on B0.out).cell 0
    have cg1 := (BG.out.on B0.out).cell 1
    have ch0 := (BH.out.on B0.out).cell 0
    have ch1 := (BH.out.on B0.out).cell 1
    simp at cg0 cg1 ch0 ch1
    go_enter Try.func57, Try.ntmps57
    go_wp2_with fail
    refine (sgk_is k1 (HG.out _ B0.out) HP.out HSG.out).mono ?_
    rintro e w1 ⟨rfl, hb⟩
    have B1 := Lib.hid (Below.on B0.out hb)
    clear cg0 cg1 ch0 ch1
    clear hb
    have cg0 := (BG.out.on B1.out).cell 0
    have cg1 := (BG.out.on B1.out).cell 1
    have ch0 := (BH.out.on B1.out).cell 0
    have ch1 := (BH.out.on B1.out).cell 1
    simp at cg0 cg1 ch0 ch1
    go_wp2_with fail
    refine (sgk_is k2 (HH.out _ B1.out) HQ.out HSH.out).mono ?_
    rintro e w2 ⟨rfl, hb⟩
    have B2 := Lib.hid (Below.on B1.out hb)
    clear cg0 cg1 ch0 ch1
    clear hb
    have cg0 := (BG.out.on B2.out).cell 0
    have cg1 := (BG.out.on B2.out).cell 1
    have ch0 := (BH.out.on B2.out).cell 0
    have ch1 := (BH.out.on B2.out).cell 1
    simp at cg0 cg1 ch0 ch1
    go_wp2_with fail
    refine (sod_is k3 (HT.out _ B2.out)).mono ?_
    rintro e w3 ⟨rfl, hb⟩
    have B3 := Lib.hid (Below.on B2.out hb)
    clear cg0 cg1 ch0 ch1
    clear hb
    have cg0 := (BG.out.on B3.out).cell 0
    have cg1 := (BG.out.on B3.out).cell 1
    have ch0 := (BH.out.on B3.out).cell 0
    have ch1 := (BH.out.on B3.out).cell 1
    simp at cg0 cg1 ch0 ch1
    go_wp2_with fail
    refine (l1In_tb k4 _).mono ?_
    rintro e wx ⟨rfl, rfl⟩
    have co0 := (BO.out.on B3.out).cell 0
    have co1 := (BO.out.on B3.out).cell 1
    have co2 := (BO.out.on B3.out).cell 2
    have co3 := (BO.out.on B3.out).cell 3
    simp at co0 co1 co2 co3
    have f0 := (BO.out.on B3.out).frozen 0
    have f1 := (BO.out.on B3.out).frozen 1
    have f2 := (BO.out.on B3.out).frozen 2
    have f3 := (BO.out.on B3.out).frozen 3
    have FF := Lib.hid (FIN.out _ B3.out)
    go_wp2
    refine bodyPost_ret (v := .tuple #[.agg #[.int .i64 0, .slice none 0 0, .int .i64 0, .slice none 0 0], .bool false]) ?_ rfl ?_
    · simp [results, Try.results57, go_sem, co0, co1, co2, co3]
    · unfold MdPost
      rw [HX.out]
      exact ⟨_, _, rfl, World.ownsRow_nil _ _ _ _, World.ownsRow_nil _ _ _ _, fun k hk => (by cases hk), (by first | exact below_set4 FF.out (by omega) | exact FF.out)⟩
  exact absurd (show mdT p g p h ask tell = true by unfold mdT btB; rw [k1, k2, k3, k4]; simp) (by rw [hb]; decide)

set_option maxRecDepth 20000 in
set_option maxHeartbeats 800000 in
theorem stmd_0 (p q ask : Int) (ga ha : Option Addr) (gn gc hn hk : Nat) (tv : Value) (g h tell : List Int) (w : World) (hg : Ints w (.slice ga gn gc) g) (hh : Ints w (.slice ha hn hk) h) (ht : Ints w tv tell) (hp : intIn p) (hq : intIn q) (hs : ∀ j, j < g.length → intIn (nth g j)) (hs' : ∀ j, j < h.length → intIn (nth h j)) (hb : mdT p g q h ask tell = true) (hask : (ask == 1) = false) :
    Calls Try.prog 57 #[.agg #[.int .i64 p, (.slice ga gn gc)], .agg #[.int .i64 q, (.slice ha hn hk)], .int .i64 ask, tv] w (MdPost p g q h ask tell w) := by
  have hm := mdT_true.1 hb
  obtain rfl := hm.e
  have k1 := gkB_true.2 hm.gg
  have k2 := gkB_true.2 hm.gh
  have k3 := odB_true.2 hm.o
  have k4 : (decide (0 ≤ ask) && decide (ask ≤ 1)) = true := by rw [decide_eq_true hm.a0, decide_eq_true hm.a1]; rfl
  have hd : (p == p) = true := by simp
  obtain ⟨ta0, tc, etv, k5⟩ := ht.opened
  obtain ⟨u, hu⟩ : ∃ u, tell.length = u := ⟨_, rfl⟩
  have hu5 : 1 ≤ u ∧ u ≤ 5 := by have := hm.o.len; have := hm.gg.p1; have := hm.gg.p5; omega
  rw [hu] at etv
  obtain ⟨TL, etl, _, _⟩ := k5.get 0 (by omega)
  subst etl
  have HTC := Lib.hid (show ∀ w', Below w.heap.size w w' → ∀ j, j < u → w'.cell? ⟨TL, j, none⟩ = some (.int .i64 (nth tell j)) from fun w' hb j hj => by
    obtain ⟨M, e1, hl, e2⟩ := k5.get j (by omega)
    cases e1
    exact (hb.cell (p := ⟨TL, j, none⟩) hl).trans e2)
  subst etv
  have HU := Lib.hid hu
  have HX : Hid (mdT p g p h ask tell = true ∧ mov tell (frm ask g h) = mov tell g) := Lib.hid ⟨hb, by rw [show frm ask g h = g by unfold frm; simp at hask; simp [hask]]⟩
  have HGK : Hid (Gk p g) := Lib.hid hm.gg
  have HOD := Lib.hid hm.o
  clear hm hb k5 hu
  have HB3 := boxes3w (w := w) [.int .i64 p, (.slice ga gn gc)] [.int .i64 p, (.slice ha hn hk)] [.int .i64 0, .slice none 0 0, .int .i64 0, .slice none 0 0] 30 30 60
  obtain ⟨W, hWe, hWs, hW, b0, b1, b2⟩ := HB3.out
  have B0 : Hid (Below W.heap.size W (((w.alloc (.cells #[.int .i64 p, (.slice ga gn gc)] 30)).alloc (.cells #[.int .i64 p, (.slice ha hn hk)] 30)).alloc (.cells #[.int .i64 0, .slice none 0 0, .int .i64 0, .slice none 0 0] 60))) := Lib.hid (by rw [hWe]; exact Below.refl _ _)
  have HW := Lib.hid hW
  have HWS := Lib.hid hWs
  have BG := Lib.hid b0
  have BH := Lib.hid b1
  have BO := Lib.hid b2
  have HG := Lib.hid (show ∀ w', Below W.heap.size W w' → Ints w' (.slice ga gn gc) g from fun w' hb => (hg.below hW).below hb)
  have HH := Lib.hid (show ∀ w', Below W.heap.size W w' → Ints w' (.slice ha hn hk) h from fun w' hb => (hh.below hW).below hb)
  have HT := Lib.hid (show ∀ w', Below W.heap.size W w' → Ints w' (.slice (some ⟨TL, 0, none⟩) u tc) tell from fun w' hb => (ht.below hW).below hb)
  have HSG := Lib.hid hs
  have HSH := Lib.hid hs'
  have HP := Lib.hid hp
  have HQ := Lib.hid hq
  have FIN : Hid (∀ w', Below W.heap.size W w' → Below w.heap.size w w') := Lib.hid fun w' hb => hW.trans (hb.mono hW.size)
  clear HB3 hWe hWs hW b0 b1 b2 hg hh ht hs hs' hp hq
  have cg0 := (BG.out.on B0.out).cell 0
  have cg1 := (BG.out.on B0.out).cell 1
  have ch0 := (BH.out.on B0.out).cell 0
  have ch1 := (BH.out.on B0.out).cell 1
  simp at cg0 cg1 ch0 ch1
  go_enter Try.func57, Try.ntmps57
  go_wp2_with fail
  refine (sgk_is k1 (HG.out _ B0.out) HP.out HSG.out).mono ?_
  rintro e w1 ⟨rfl, hb⟩
  have B1 := Lib.hid (Below.on B0.out hb)
  clear cg0 cg1 ch0 ch1
  clear hb
  have cg0 := (BG.out.on B1.out).cell 0
  have cg1 := (BG.out.on B1.out).cell 1
  have ch0 := (BH.out.on B1.out).cell 0
  have ch1 := (BH.out.on B1.out).cell 1
  simp at cg0 cg1 ch0 ch1
  go_wp2_with fail
  refine (sgk_is k2 (HH.out _ B1.out) HQ.out HSH.out).mono ?_
  rintro e w2 ⟨rfl, hb⟩
  have B2 := Lib.hid (Below.on B1.out hb)
  clear cg0 cg1 ch0 ch1
  clear hb
  have cg0 := (BG.out.on B2.out).cell 0
  have cg1 := (BG.out.on B2.out).cell 1
  have ch0 := (BH.out.on B2.out).cell 0
  have ch1 := (BH.out.on B2.out).cell 1
  simp at cg0 cg1 ch0 ch1
  go_wp2_with fail
  refine (sod_is k3 (HT.out _ B2.out)).mono ?_
  rintro e w3 ⟨rfl, hb⟩
  have B3 := Lib.hid (Below.on B2.out hb)
  clear cg0 cg1 ch0 ch1
  clear hb
  have cg0 := (BG.out.on B3.out).cell 0
  have cg1 := (BG.out.on B3.out).cell 1
  have ch0 := (BH.out.on B3.out).cell 0
  have ch1 := (BH.out.on B3.out).cell 1
  simp at cg0 cg1 ch0 ch1
  go_wp2_with fail
  refine (l1In_tb k4 _).mono ?_
  rintro e wx ⟨rfl, rfl⟩
  have B4 : Hid (Below W.heap.size W (w3.alloc (.cells #[.int .i64 p, (.slice ga gn gc)] 30))) := Lib.hid (Below.on B3.out (below_grow w3 (.cells #[.int .i64 p, (.slice ga gn gc)] 30)))
  go_wp2_with fail
  refine (smov_any p (.slice ga gn gc) (.slice (some ⟨TL, 0, none⟩) u tc) g tell _ (HG.out _ B4.out) (HT.out _ B4.out) HGK.out HOD.out).mono ?_
  rintro e w5 ⟨mv, rfl, om, hb⟩
  obtain ⟨va, vc, hv⟩ := om.form
  obtain ⟨n, hnn⟩ : ∃ n, (mov tell g).length = n := ⟨_, rfl⟩
  rw [hnn] at hv
  subst hv
  have B5 := Lib.hid (Below.on B4.out hb)
  have OM := Lib.hid om
  have SZ : Hid (W.heap.size ≤ (w3.alloc (.cells #[.int .i64 p, (.slice ga gn gc)] 30)).heap.size ∧ W.heap.size ≤ w5.heap.size) := Lib.hid ⟨B4.out.size, B5.out.size⟩
  clear cg0 cg1 ch0 ch1
  clear hb om hnn
  have O2 := own_made' w5
  have HTC2 := HTC.out _ (FIN.out _ (Below.on B5.out (below_grow w5 (.cells #[] 3))))
  have hu9 : ([] : List Int).length + u < 1000000000 := by simp; omega
  go_wp2_with (at_builtin; refine wpAppInts (xs := []) (ys := tell) rfl _ _ rfl rfl O2 HU.out hu9 (by simp) rfl HTC2 ?_)
  intro tv w6 o3 g3
  have O3 := Lib.hid (show Own w6 w5.heap.size tv tell from o3)
  have B6 := Lib.hid ((below_grow w5 (.cells #[] 3)).grown g3 (by simp) (fun k hk => (O2.lt k hk).1))
  have BW6 := Lib.hid (Below.on B5.out B6.out)
  have OM6 := Lib.hid (own_below OM.out B6.out)
  obtain ⟨ta, tcc, htv⟩ := Own.form (show Own w6 w5.heap.size tv tell from o3)
  rw [HU.out] at htv
  subst htv
  have AP : Hid (∀ k, (Value.slice va n vc).ownBlock = some k → (Value.slice ta u tcc).ownBlock = some k → False) := Lib.hid fun k h1 h2 => by
    have := (OM.out.lt k h1).2; have := (O3.out.lt k h2).1; omega
  clear o3 g3 O2 HTC2 hu9
  have co0 := (BO.out.on BW6.out).cell 0
  have co1 := (BO.out.on BW6.out).cell 1
  have co2 := (BO.out.on BW6.out).cell 2
  have co3 := (BO.out.on BW6.out).cell 3
  simp at co0 co1 co2 co3
  have f0 := (BO.out.on BW6.out).frozen 0
  have f1 := (BO.out.on BW6.out).frozen 1
  have f2 := (BO.out.on BW6.out).frozen 2
  have f3 := (BO.out.on BW6.out).frozen 3
  have FF := Lib.hid (FIN.out _ BW6.out)
  have NN : Hid (w.heap.size + 1 + 1 < (w3.alloc (.cells #[.int .i64 p, (.slice ga gn gc)] 30)).heap.size ∧ w.heap.size + 1 + 1 < w5.heap.size ∧ w.heap.size ≤ (w3.alloc (.cells #[.int .i64 p, (.slice ga gn gc)] 30)).heap.size ∧ w.heap.size ≤ w5.heap.size) := Lib.hid (by have := HWS.out; have := SZ.out; omega)
  go_wp2
  refine bodyPost_ret (v := .tuple #[.agg #[.int .i64 p, .slice va n vc, .int .i64 ask, .slice ta u tcc], .bool true]) ?_ rfl ?_
  · simp [results, Try.results57, go_sem, co0, co1, co2, co3]
  · unfold MdPost
    rw [HX.out.1, HX.out.2]
    exact ⟨_, _, rfl, own_set4 OM6.out NN.out.1 NN.out.2.2.1, own_set4 O3.out NN.out.2.1 NN.out.2.2.2, AP.out, below_set4 FF.out (by omega)⟩

set_option maxRecDepth 20000 in
set_option maxHeartbeats 800000 in
theorem stmd_1 (p q ask : Int) (ga ha : Option Addr) (gn gc hn hk : Nat) (tv : Value) (g h tell : List Int) (w : World) (hg : Ints w (.slice ga gn gc) g) (hh : Ints w (.slice ha hn hk) h) (ht : Ints w tv tell) (hp : intIn p) (hq : intIn q) (hs : ∀ j, j < g.length → intIn (nth g j)) (hs' : ∀ j, j < h.length → intIn (nth h j)) (hb : mdT p g q h ask tell = true) (hask : (ask == 1) = true) :
    Calls Try.prog 57 #[.agg #[.int .i64 p, (.slice ga gn gc)], .agg #[.int .i64 q, (.slice ha hn hk)], .int .i64 ask, tv] w (MdPost p g q h ask tell w) := by
  have hm := mdT_true.1 hb
  obtain rfl := hm.e
  have k1 := gkB_true.2 hm.gg
  have k2 := gkB_true.2 hm.gh
  have k3 := odB_true.2 hm.o
  have k4 : (decide (0 ≤ ask) && decide (ask ≤ 1)) = true := by rw [decide_eq_true hm.a0, decide_eq_true hm.a1]; rfl
  have hd : (p == p) = true := by simp
  obtain ⟨ta0, tc, etv, k5⟩ := ht.opened
  obtain ⟨u, hu⟩ : ∃ u, tell.length = u := ⟨_, rfl⟩
  have hu5 : 1 ≤ u ∧ u ≤ 5 := by have := hm.o.len; have := hm.gg.p1; have := hm.gg.p5; omega
  rw [hu] at etv
  obtain ⟨TL, etl, _, _⟩ := k5.get 0 (by omega)
  subst etl
  have HTC := Lib.hid (show ∀ w', Below w.heap.size w w' → ∀ j, j < u → w'.cell? ⟨TL, j, none⟩ = some (.int .i64 (nth tell j)) from fun w' hb j hj => by
    obtain ⟨M, e1, hl, e2⟩ := k5.get j (by omega)
    cases e1
    exact (hb.cell (p := ⟨TL, j, none⟩) hl).trans e2)
  subst etv
  have HU := Lib.hid hu
  have HX : Hid (mdT p g p h ask tell = true ∧ mov tell (frm ask g h) = mov tell h) := Lib.hid ⟨hb, by rw [show frm ask g h = h by unfold frm; simp at hask; simp [hask]]⟩
  have HGK : Hid (Gk p h) := Lib.hid hm.gh
  have HOD := Lib.hid hm.o
  clear hm hb k5 hu
  have HB3 := boxes3w (w := w) [.int .i64 p, (.slice ga gn gc)] [.int .i64 p, (.slice ha hn hk)] [.int .i64 0, .slice none 0 0, .int .i64 0, .slice none 0 0] 30 30 60
  obtain ⟨W, hWe, hWs, hW, b0, b1, b2⟩ := HB3.out
  have B0 : Hid (Below W.heap.size W (((w.alloc (.cells #[.int .i64 p, (.slice ga gn gc)] 30)).alloc (.cells #[.int .i64 p, (.slice ha hn hk)] 30)).alloc (.cells #[.int .i64 0, .slice none 0 0, .int .i64 0, .slice none 0 0] 60))) := Lib.hid (by rw [hWe]; exact Below.refl _ _)
  have HW := Lib.hid hW
  have HWS := Lib.hid hWs
  have BG := Lib.hid b0
  have BH := Lib.hid b1
  have BO := Lib.hid b2
  have HG := Lib.hid (show ∀ w', Below W.heap.size W w' → Ints w' (.slice ga gn gc) g from fun w' hb => (hg.below hW).below hb)
  have HH := Lib.hid (show ∀ w', Below W.heap.size W w' → Ints w' (.slice ha hn hk) h from fun w' hb => (hh.below hW).below hb)
  have HT := Lib.hid (show ∀ w', Below W.heap.size W w' → Ints w' (.slice (some ⟨TL, 0, none⟩) u tc) tell from fun w' hb => (ht.below hW).below hb)
  have HSG := Lib.hid hs
  have HSH := Lib.hid hs'
  have HP := Lib.hid hp
  have HQ := Lib.hid hq
  have FIN : Hid (∀ w', Below W.heap.size W w' → Below w.heap.size w w') := Lib.hid fun w' hb => hW.trans (hb.mono hW.size)
  clear HB3 hWe hWs hW b0 b1 b2 hg hh ht hs hs' hp hq
  have cg0 := (BG.out.on B0.out).cell 0
  have cg1 := (BG.out.on B0.out).cell 1
  have ch0 := (BH.out.on B0.out).cell 0
  have ch1 := (BH.out.on B0.out).cell 1
  simp at cg0 cg1 ch0 ch1
  go_enter Try.func57, Try.ntmps57
  go_wp2_with fail
  refine (sgk_is k1 (HG.out _ B0.out) HP.out HSG.out).mono ?_
  rintro e w1 ⟨rfl, hb⟩
  have B1 := Lib.hid (Below.on B0.out hb)
  clear cg0 cg1 ch0 ch1
  clear hb
  have cg0 := (BG.out.on B1.out).cell 0
  have cg1 := (BG.out.on B1.out).cell 1
  have ch0 := (BH.out.on B1.out).cell 0
  have ch1 := (BH.out.on B1.out).cell 1
  simp at cg0 cg1 ch0 ch1
  go_wp2_with fail
  refine (sgk_is k2 (HH.out _ B1.out) HQ.out HSH.out).mono ?_
  rintro e w2 ⟨rfl, hb⟩
  have B2 := Lib.hid (Below.on B1.out hb)
  clear cg0 cg1 ch0 ch1
  clear hb
  have cg0 := (BG.out.on B2.out).cell 0
  have cg1 := (BG.out.on B2.out).cell 1
  have ch0 := (BH.out.on B2.out).cell 0
  have ch1 := (BH.out.on B2.out).cell 1
  simp at cg0 cg1 ch0 ch1
  go_wp2_with fail
  refine (sod_is k3 (HT.out _ B2.out)).mono ?_
  rintro e w3 ⟨rfl, hb⟩
  have B3 := Lib.hid (Below.on B2.out hb)
  clear cg0 cg1 ch0 ch1
  clear hb
  have cg0 := (BG.out.on B3.out).cell 0
  have cg1 := (BG.out.on B3.out).cell 1
  have ch0 := (BH.out.on B3.out).cell 0
  have ch1 := (BH.out.on B3.out).cell 1
  simp at cg0 cg1 ch0 ch1
  go_wp2_with fail
  refine (l1In_tb k4 _).mono ?_
  rintro e wx ⟨rfl, rfl⟩
  have B4 : Hid (Below W.heap.size W (w3.alloc (.cells #[.int .i64 p, (.slice ha hn hk)] 30))) := Lib.hid (Below.on B3.out (below_grow w3 (.cells #[.int .i64 p, (.slice ha hn hk)] 30)))
  have d0 := (BH.out.on (Below.on B3.out (below_grow w3 (.cells #[.int .i64 p, (.slice ga gn gc)] 30)))).cell 0
  have d1 := (BH.out.on (Below.on B3.out (below_grow w3 (.cells #[.int .i64 p, (.slice ga gn gc)] 30)))).cell 1
  simp only [List.getElem?_cons_zero, List.getElem?_cons_succ] at d0 d1
  go_wp2_with fail
  refine (smov_any p (.slice ha hn hk) (.slice (some ⟨TL, 0, none⟩) u tc) h tell _ (HH.out _ B4.out) (HT.out _ B4.out) HGK.out HOD.out).mono ?_
  rintro e w5 ⟨mv, rfl, om, hb⟩
  obtain ⟨va, vc, hv⟩ := om.form
  obtain ⟨n, hnn⟩ : ∃ n, (mov tell h).length = n := ⟨_, rfl⟩
  rw [hnn] at hv
  subst hv
  have B5 := Lib.hid (Below.on B4.out hb)
  have OM := Lib.hid om
  have SZ : Hid (W.heap.size ≤ (w3.alloc (.cells #[.int .i64 p, (.slice ha hn hk)] 30)).heap.size ∧ W.heap.size ≤ w5.heap.size) := Lib.hid ⟨B4.out.size, B5.out.size⟩
  clear cg0 cg1 ch0 ch1
  clear hb om hnn
  have O2 := own_made' w5
  have HTC2 := HTC.out _ (FIN.out _ (Below.on B5.out (below_grow w5 (.cells #[] 3))))
  have hu9 : ([] : List Int).length + u < 1000000000 := by simp; omega
  go_wp2_with (at_builtin; refine wpAppInts (xs := []) (ys := tell) rfl _ _ rfl rfl O2 HU.out hu9 (by simp) rfl HTC2 ?_)
  intro tv w6 o3 g3
  have O3 := Lib.hid (show Own w6 w5.heap.size tv tell from o3)
  have B6 := Lib.hid ((below_grow w5 (.cells #[] 3)).grown g3 (by simp) (fun k hk => (O2.lt k hk).1))
  have BW6 := Lib.hid (Below.on B5.out B6.out)
  have OM6 := Lib.hid (own_below OM.out B6.out)
  obtain ⟨ta, tcc, htv⟩ := Own.form (show Own w6 w5.heap.size tv tell from o3)
  rw [HU.out] at htv
  subst htv
  have AP : Hid (∀ k, (Value.slice va n vc).ownBlock = some k → (Value.slice ta u tcc).ownBlock = some k → False) := Lib.hid fun k h1 h2 => by
    have := (OM.out.lt k h1).2; have := (O3.out.lt k h2).1; omega
  clear o3 g3 O2 HTC2 hu9
  have co0 := (BO.out.on BW6.out).cell 0
  have co1 := (BO.out.on BW6.out).cell 1
  have co2 := (BO.out.on BW6.out).cell 2
  have co3 := (BO.out.on BW6.out).cell 3
  simp at co0 co1 co2 co3
  have f0 := (BO.out.on BW6.out).frozen 0
  have f1 := (BO.out.on BW6.out).frozen 1
  have f2 := (BO.out.on BW6.out).frozen 2
  have f3 := (BO.out.on BW6.out).frozen 3
  have FF := Lib.hid (FIN.out _ BW6.out)
  have NN : Hid (w.heap.size + 1 + 1 < (w3.alloc (.cells #[.int .i64 p, (.slice ha hn hk)] 30)).heap.size ∧ w.heap.size + 1 + 1 < w5.heap.size ∧ w.heap.size ≤ (w3.alloc (.cells #[.int .i64 p, (.slice ha hn hk)] 30)).heap.size ∧ w.heap.size ≤ w5.heap.size) := Lib.hid (by have := HWS.out; have := SZ.out; omega)
  go_wp2
  refine bodyPost_ret (v := .tuple #[.agg #[.int .i64 p, .slice va n vc, .int .i64 ask, .slice ta u tcc], .bool true]) ?_ rfl ?_
  · simp [results, Try.results57, go_sem, co0, co1, co2, co3]
  · unfold MdPost
    rw [HX.out.1, HX.out.2]
    exact ⟨_, _, rfl, own_set4 OM6.out NN.out.1 NN.out.2.2.1, own_set4 O3.out NN.out.2.1 NN.out.2.2.2, AP.out, below_set4 FF.out (by omega)⟩

theorem stmd_any (p q ask : Int) (gv hv tv : Value) (g h tell : List Int) (w : World) (hg : Ints w gv g) (hh : Ints w hv h) (ht : Ints w tv tell) (hp : intIn p) (hq : intIn q) (hs : ∀ j, j < g.length → intIn (nth g j)) (hs' : ∀ j, j < h.length → intIn (nth h j)) :
    Calls Try.prog 57 #[.agg #[.int .i64 p, gv], .agg #[.int .i64 q, hv], .int .i64 ask, tv] w (MdPost p g q h ask tell w) := by
  obtain ⟨_, _, rfl, _⟩ := hg.opened
  obtain ⟨_, _, rfl, _⟩ := hh.opened
  cases hb : mdT p g q h ask tell
  · exact stmd_no p q ask _ _ _ _ _ _ tv g h tell w hg hh ht hp hq hs hs' hb
  · cases ha : (ask == 1)
    · exact stmd_0 p q ask _ _ _ _ _ _ tv g h tell w hg hh ht hp hq hs hs' hb ha
    · exact stmd_1 p q ask _ _ _ _ _ _ tv g h tell w hg hh ht hp hq hs hs' hb ha
end Go.Proofs.Ytlcegpmhlnilfaa

/- spec: TurnOf. -/
namespace Go.Proofs.Ytlcegpmhlnilfaa
open Go.RowKit

def OfPost (p : Int) (g : List Int) (q : Int) (h known further : List Int) (ask : Int) (w : World) (e : Ending) (w' : World) : Prop :=
  if ofT p g q h known further ask then TrnPost w p (mov further g) ask (toldT known further ask) true e w' else TrnPost w 0 [] 0 [] false e w'

set_option maxRecDepth 20000 in
set_option maxHeartbeats 1600000 in
theorem stof_no (p q ask : Int) (ga ha : Option Addr) (gn gc hn hk : Nat) (kv fv : Value) (g h known further : List Int) (w : World) (hg : Ints w (.slice ga gn gc) g) (hh : Ints w (.slice ha hn hk) h) (hkn : Ints w kv known) (hf : Ints w fv further) (hp : intIn p) (hq : intIn q) (hs : ∀ j, j < g.length → intIn (nth g j)) (hs' : ∀ j, j < h.length → intIn (nth h j)) (hb : ofT p g q h known further ask = false) :
    Calls Try.prog 42 #[.agg #[.int .i64 p, (.slice ga gn gc)], .agg #[.int .i64 q, (.slice ha hn hk)], kv, fv, .int .i64 ask] w (OfPost p g q h known further ask w) := by
  have HB3 := boxes3w (w := w) [.int .i64 p, (.slice ga gn gc)] [.int .i64 q, (.slice ha hn hk)] [.int .i64 0, .slice none 0 0, .int .i64 0, .slice none 0 0] 30 30 60
  obtain ⟨W, hWe, hWs, hW, b0, b1, b2⟩ := HB3.out
  have B0 : Hid (Below W.heap.size W (((w.alloc (.cells #[.int .i64 p, (.slice ga gn gc)] 30)).alloc (.cells #[.int .i64 q, (.slice ha hn hk)] 30)).alloc (.cells #[.int .i64 0, .slice none 0 0, .int .i64 0, .slice none 0 0] 60))) := Lib.hid (by rw [hWe]; exact Below.refl _ _)
  have HBD0 : Hid (Below W.heap.size W (((w.alloc (.cells #[.int .i64 p, (.slice ga gn gc)] 30)).alloc (.cells #[.int .i64 q, (.slice ha hn hk)] 30)).alloc (.cells #[.int .i64 0, .slice none 0 0, .int .i64 0, .slice none 0 0] 60)).drew) := Lib.hid (by rw [hWe]; exact (Below.refl _ _).drew)
  have HW := Lib.hid hW
  have HWS := Lib.hid hWs
  have BG := Lib.hid b0
  have BH := Lib.hid b1
  have BO := Lib.hid b2
  have HG := Lib.hid (show ∀ w', Below W.heap.size W w' → Ints w' (.slice ga gn gc) g from fun w' hb => (hg.below hW).below hb)
  have HH := Lib.hid (show ∀ w', Below W.heap.size W w' → Ints w' (.slice ha hn hk) h from fun w' hb => (hh.below hW).below hb)
  have HK := Lib.hid (show ∀ w', Below W.heap.size W w' → Ints w' kv known from fun w' hb => (hkn.below hW).below hb)
  have HF := Lib.hid (show ∀ w', Below W.heap.size W w' → Ints w' fv further from fun w' hb => (hf.below hW).below hb)
  have HFG := Lib.hid (few_of hg)
  have HSG := Lib.hid hs
  have HSH := Lib.hid hs'
  have HP := Lib.hid hp
  have HQ := Lib.hid hq
  have FIN : Hid (∀ w', Below W.heap.size W w' → Below w.heap.size w w') := Lib.hid fun w' hb => hW.trans (hb.mono hW.size)
  clear HB3 hWe hWs hW b0 b1 b2 hg hh hkn hf hs hs' hp hq
  cases k1 : gkB p g
  · have HX := Lib.hid (show ofT p g q h known further ask = false from hb)
    go_enter Try.func42, Try.ntmps42
    go_wp2_with fail
    refine wp_region_cls (C := fun w' => Hid (Below W.heap.size W w')) (by kernel_rfl) (by kernel_rfl) HBD0 ?_
    go_big_quiet_want
    go_big_quiet_op
    refine ⟨.agg #[.int .i64 p, (.slice ga gn gc)], fun w' hw' => ?_, ?_⟩
    · have q := BG.out.on hw'.out
      have q0 := q.cell 0
      have q1 := q.cell 1
      simp at q0 q1
      simp [go_sem, q0, q1]
    go_big_quiet_on
    go_big_quiet_want; go_big_quiet_op
    go_big_quiet_call ((intro hw; exact (sgk_is k1 (HG.out _ hw.out) HP.out HSG.out).mono fun _ _ ⟨he, hb⟩ => ⟨he, Lib.hid (Below.on hw.out hb)⟩))
    go_big_quiet_want; go_big_quiet_op; first | go_big_quiet_on | (refine ⟨_, fun _ _ => rfl, ?_⟩; go_big_quiet_on)
    go_big_quiet_want; go_big_quiet_op; first | go_big_quiet_on | (refine ⟨_, fun _ _ => rfl, ?_⟩; go_big_quiet_on)
    go_big_quiet_skip
    go_big_quiet_skip
    go_big_quiet_skip
    go_big_quiet_want; go_big_quiet_op; first | go_big_quiet_on | (refine ⟨_, fun _ _ => rfl, ?_⟩; go_big_quiet_on)
    go_big_quiet_want; go_big_quiet_op; first | go_big_quiet_on | (refine ⟨_, fun _ _ => rfl, ?_⟩; go_big_quiet_on)
    go_big_quiet_skip
    go_big_quiet_skip
    go_big_quiet_skip
    go_big_quiet_skip
    go_big_quiet_skip
    go_big_quiet_want; go_big_quiet_op; first | go_big_quiet_on | (refine ⟨_, fun _ _ => rfl, ?_⟩; go_big_quiet_on)
    go_big_quiet_want; go_big_quiet_op; first | go_big_quiet_on | (refine ⟨_, fun _ _ => rfl, ?_⟩; go_big_quiet_on)
    go_big_quiet_skip
    go_big_quiet_skip
    go_big_quiet_skip
    go_big_quiet_skip
    go_big_quiet_skip
    go_big_quiet_want; go_big_quiet_op; first | go_big_quiet_on | (refine ⟨_, fun _ _ => rfl, ?_⟩; go_big_quiet_on)
    go_big_quiet_want; go_big_quiet_op; first | go_big_quiet_on | (refine ⟨_, fun _ _ => rfl, ?_⟩; go_big_quiet_on)
    go_big_quiet_skip
    go_big_quiet_skip
    go_big_quiet_skip
    go_big_quiet_skip
    go_big_quiet_skip
    go_big_quiet_want; go_big_quiet_op; first | go_big_quiet_on | (refine ⟨_, fun _ _ => rfl, ?_⟩; go_big_quiet_on)
    go_big_quiet_want; go_big_quiet_op; first | go_big_quiet_on | (refine ⟨_, fun _ _ => rfl, ?_⟩; go_big_quiet_on)
    go_big_quiet_skip
    go_big_quiet_skip
    go_big_quiet_skip
    go_big_quiet_want; go_big_quiet_op; first | go_big_quiet_on | (refine ⟨_, fun _ _ => rfl, ?_⟩; go_big_quiet_on)
    go_big_quiet_want; go_big_quiet_op; first | go_big_quiet_on | (refine ⟨_, fun _ _ => rfl, ?_⟩; go_big_quiet_on)
    go_big_quiet_skip
    go_big_quiet_skip
    go_big_quiet_skip
    go_big_quiet_skip
    go_big_quiet_skip
    go_big_quiet_skip
    go_big_quiet_want; go_big_quiet_op; first | go_big_quiet_on | (refine ⟨_, fun _ _ => rfl, ?_⟩; go_big_quiet_on)
    refine wpQuiet_nil ?_
    intro w3 hw3
    have B3 := Lib.hid hw3.out
    clear hw3 HBD0
    have co0 := (BO.out.on B3.out).cell 0
    have co1 := (BO.out.on B3.out).cell 1
    have co2 := (BO.out.on B3.out).cell 2
    have co3 := (BO.out.on B3.out).cell 3
    simp at co0 co1 co2 co3
    have f0 := (BO.out.on B3.out).frozen 0
    have f1 := (BO.out.on B3.out).frozen 1
    have f2 := (BO.out.on B3.out).frozen 2
    have f3 := (BO.out.on B3.out).frozen 3
    have FF := Lib.hid (FIN.out _ B3.out)
    go_wp2
    refine bodyPost_ret (v := .tuple #[.agg #[.int .i64 0, .slice none 0 0, .int .i64 0, .slice none 0 0], .bool false]) ?_ rfl ?_
    · simp [results, Try.results42, go_sem, co0, co1, co2, co3]
    · unfold OfPost
      rw [HX.out]
      exact ⟨_, _, rfl, World.ownsRow_nil _ _ _ _, World.ownsRow_nil _ _ _ _, fun k hk => (by cases hk), (by first | exact below_set4 FF.out (by omega) | exact FF.out)⟩
  cases k2 : gkB q h
  · have HX := Lib.hid (show ofT p g q h known further ask = false from hb)
    go_enter Try.func42, Try.ntmps42
    go_wp2_with fail
    refine wp_region_cls (C := fun w' => Hid (Below W.heap.size W w')) (by kernel_rfl) (by kernel_rfl) HBD0 ?_
    go_big_quiet_want
    go_big_quiet_op
    refine ⟨.agg #[.int .i64 p, (.slice ga gn gc)], fun w' hw' => ?_, ?_⟩
    · have q := BG.out.on hw'.out
      have q0 := q.cell 0
      have q1 := q.cell 1
      simp at q0 q1
      simp [go_sem, q0, q1]
    go_big_quiet_on
    go_big_quiet_want; go_big_quiet_op
    go_big_quiet_call ((intro hw; exact (sgk_is k1 (HG.out _ hw.out) HP.out HSG.out).mono fun _ _ ⟨he, hb⟩ => ⟨he, Lib.hid (Below.on hw.out hb)⟩))
    go_big_quiet_want; go_big_quiet_op; first | go_big_quiet_on | (refine ⟨_, fun _ _ => rfl, ?_⟩; go_big_quiet_on)
    go_big_quiet_want; go_big_quiet_op; first | go_big_quiet_on | (refine ⟨_, fun _ _ => rfl, ?_⟩; go_big_quiet_on)
    go_big_quiet_want
    go_big_quiet_op
    refine ⟨.agg #[.int .i64 q, (.slice ha hn hk)], fun w' hw' => ?_, ?_⟩
    · have q := BH.out.on hw'.out
      have q0 := q.cell 0
      have q1 := q.cell 1
      simp at q0 q1
      simp [go_sem, q0, q1]
    go_big_quiet_on
    go_big_quiet_want; go_big_quiet_op
    go_big_quiet_call ((intro hw; exact (sgk_is k2 (HH.out _ hw.out) HQ.out HSH.out).mono fun _ _ ⟨he, hb⟩ => ⟨he, Lib.hid (Below.on hw.out hb)⟩))
    go_big_quiet_want; go_big_quiet_op; first | go_big_quiet_on | (refine ⟨_, fun _ _ => rfl, ?_⟩; go_big_quiet_on)
    go_big_quiet_want; go_big_quiet_op; first | go_big_quiet_on | (refine ⟨_, fun _ _ => rfl, ?_⟩; go_big_quiet_on)
    go_big_quiet_want; go_big_quiet_op; first | go_big_quiet_on | (refine ⟨_, fun _ _ => rfl, ?_⟩; go_big_quiet_on)
    go_big_quiet_skip
    go_big_quiet_skip
    go_big_quiet_skip
    go_big_quiet_skip
    go_big_quiet_skip
    go_big_quiet_want; go_big_quiet_op; first | go_big_quiet_on | (refine ⟨_, fun _ _ => rfl, ?_⟩; go_big_quiet_on)
    go_big_quiet_want; go_big_quiet_op; first | go_big_quiet_on | (refine ⟨_, fun _ _ => rfl, ?_⟩; go_big_quiet_on)
    go_big_quiet_skip
    go_big_quiet_skip
    go_big_quiet_skip
    go_big_quiet_skip
    go_big_quiet_skip
    go_big_quiet_want; go_big_quiet_op; first | go_big_quiet_on | (refine ⟨_, fun _ _ => rfl, ?_⟩; go_big_quiet_on)
    go_big_quiet_want; go_big_quiet_op; first | go_big_quiet_on | (refine ⟨_, fun _ _ => rfl, ?_⟩; go_big_quiet_on)
    go_big_quiet_skip
    go_big_quiet_skip
    go_big_quiet_skip
    go_big_quiet_skip
    go_big_quiet_skip
    go_big_quiet_want; go_big_quiet_op; first | go_big_quiet_on | (refine ⟨_, fun _ _ => rfl, ?_⟩; go_big_quiet_on)
    go_big_quiet_want; go_big_quiet_op; first | go_big_quiet_on | (refine ⟨_, fun _ _ => rfl, ?_⟩; go_big_quiet_on)
    go_big_quiet_skip
    go_big_quiet_skip
    go_big_quiet_skip
    go_big_quiet_want; go_big_quiet_op; first | go_big_quiet_on | (refine ⟨_, fun _ _ => rfl, ?_⟩; go_big_quiet_on)
    go_big_quiet_want; go_big_quiet_op; first | go_big_quiet_on | (refine ⟨_, fun _ _ => rfl, ?_⟩; go_big_quiet_on)
    go_big_quiet_skip
    go_big_quiet_skip
    go_big_quiet_skip
    go_big_quiet_skip
    go_big_quiet_skip
    go_big_quiet_skip
    go_big_quiet_want; go_big_quiet_op; first | go_big_quiet_on | (refine ⟨_, fun _ _ => rfl, ?_⟩; go_big_quiet_on)
    refine wpQuiet_nil ?_
    intro w3 hw3
    have B3 := Lib.hid hw3.out
    clear hw3 HBD0
    have co0 := (BO.out.on B3.out).cell 0
    have co1 := (BO.out.on B3.out).cell 1
    have co2 := (BO.out.on B3.out).cell 2
    have co3 := (BO.out.on B3.out).cell 3
    simp at co0 co1 co2 co3
    have f0 := (BO.out.on B3.out).frozen 0
    have f1 := (BO.out.on B3.out).frozen 1
    have f2 := (BO.out.on B3.out).frozen 2
    have f3 := (BO.out.on B3.out).frozen 3
    have FF := Lib.hid (FIN.out _ B3.out)
    go_wp2
    refine bodyPost_ret (v := .tuple #[.agg #[.int .i64 0, .slice none 0 0, .int .i64 0, .slice none 0 0], .bool false]) ?_ rfl ?_
    · simp [results, Try.results42, go_sem, co0, co1, co2, co3]
    · unfold OfPost
      rw [HX.out]
      exact ⟨_, _, rfl, World.ownsRow_nil _ _ _ _, World.ownsRow_nil _ _ _ _, fun k hk => (by cases hk), (by first | exact below_set4 FF.out (by omega) | exact FF.out)⟩
  by_cases hpq : p = q
  rotate_left
  · have HX := Lib.hid (show ofT p g q h known further ask = false from hb)
    go_enter Try.func42, Try.ntmps42
    go_wp2_with fail
    refine wp_region_cls (C := fun w' => Hid (Below W.heap.size W w')) (by kernel_rfl) (by kernel_rfl) HBD0 ?_
    go_big_quiet_want
    go_big_quiet_op
    refine ⟨.agg #[.int .i64 p, (.slice ga gn gc)], fun w' hw' => ?_, ?_⟩
    · have q := BG.out.on hw'.out
      have q0 := q.cell 0
      have q1 := q.cell 1
      simp at q0 q1
      simp [go_sem, q0, q1]
    go_big_quiet_on
    go_big_quiet_want; go_big_quiet_op
    go_big_quiet_call ((intro hw; exact (sgk_is k1 (HG.out _ hw.out) HP.out HSG.out).mono fun _ _ ⟨he, hb⟩ => ⟨he, Lib.hid (Below.on hw.out hb)⟩))
    go_big_quiet_want; go_big_quiet_op; first | go_big_quiet_on | (refine ⟨_, fun _ _ => rfl, ?_⟩; go_big_quiet_on)
    go_big_quiet_want; go_big_quiet_op; first | go_big_quiet_on | (refine ⟨_, fun _ _ => rfl, ?_⟩; go_big_quiet_on)
    go_big_quiet_want
    go_big_quiet_op
    refine ⟨.agg #[.int .i64 q, (.slice ha hn hk)], fun w' hw' => ?_, ?_⟩
    · have q := BH.out.on hw'.out
      have q0 := q.cell 0
      have q1 := q.cell 1
      simp at q0 q1
      simp [go_sem, q0, q1]
    go_big_quiet_on
    go_big_quiet_want; go_big_quiet_op
    go_big_quiet_call ((intro hw; exact (sgk_is k2 (HH.out _ hw.out) HQ.out HSH.out).mono fun _ _ ⟨he, hb⟩ => ⟨he, Lib.hid (Below.on hw.out hb)⟩))
    go_big_quiet_want; go_big_quiet_op; first | go_big_quiet_on | (refine ⟨_, fun _ _ => rfl, ?_⟩; go_big_quiet_on)
    go_big_quiet_want; go_big_quiet_op; first | go_big_quiet_on | (refine ⟨_, fun _ _ => rfl, ?_⟩; go_big_quiet_on)
    go_big_quiet_want; go_big_quiet_op; first | go_big_quiet_on | (refine ⟨_, fun _ _ => rfl, ?_⟩; go_big_quiet_on)
    go_big_quiet_want; go_big_quiet_op; first | go_big_quiet_on | (refine ⟨_, fun _ _ => rfl, ?_⟩; go_big_quiet_on)
    go_big_quiet_want
    go_big_quiet_op
    refine ⟨.int .i64 p, fun w' hw' => ?_, ?_⟩
    · have q := BG.out.on hw'.out
      have q0 := q.cell 0
      simp at q0
      simp [go_sem, q0]
    go_big_quiet_on
    go_big_quiet_want; go_big_quiet_op; first | go_big_quiet_on | (refine ⟨_, fun _ _ => rfl, ?_⟩; go_big_quiet_on)
    go_big_quiet_want
    go_big_quiet_op
    refine ⟨.int .i64 q, fun w' hw' => ?_, ?_⟩
    · have q := BH.out.on hw'.out
      have q0 := q.cell 0
      simp at q0
      simp [go_sem, q0]
    go_big_quiet_on
    go_big_quiet_want
    go_big_quiet_op
    refine ⟨.bool true, fun w' hw' => ?_, ?_⟩
    · simp [go_sem, hpq]
    go_big_quiet_on
    go_big_quiet_want; go_big_quiet_op; first | go_big_quiet_on | (refine ⟨_, fun _ _ => rfl, ?_⟩; go_big_quiet_on)
    go_big_quiet_want; go_big_quiet_op; first | go_big_quiet_on | (refine ⟨_, fun _ _ => rfl, ?_⟩; go_big_quiet_on)
    go_big_quiet_skip
    go_big_quiet_skip
    go_big_quiet_skip
    go_big_quiet_skip
    go_big_quiet_skip
    go_big_quiet_want; go_big_quiet_op; first | go_big_quiet_on | (refine ⟨_, fun _ _ => rfl, ?_⟩; go_big_quiet_on)
    go_big_quiet_want; go_big_quiet_op; first | go_big_quiet_on | (refine ⟨_, fun _ _ => rfl, ?_⟩; go_big_quiet_on)
    go_big_quiet_skip
    go_big_quiet_skip
    go_big_quiet_skip
    go_big_quiet_skip
    go_big_quiet_skip
    go_big_quiet_want; go_big_quiet_op; first | go_big_quiet_on | (refine ⟨_, fun _ _ => rfl, ?_⟩; go_big_quiet_on)
    go_big_quiet_want; go_big_quiet_op; first | go_big_quiet_on | (refine ⟨_, fun _ _ => rfl, ?_⟩; go_big_quiet_on)
    go_big_quiet_skip
    go_big_quiet_skip
    go_big_quiet_skip
    go_big_quiet_want; go_big_quiet_op; first | go_big_quiet_on | (refine ⟨_, fun _ _ => rfl, ?_⟩; go_big_quiet_on)
    go_big_quiet_want; go_big_quiet_op; first | go_big_quiet_on | (refine ⟨_, fun _ _ => rfl, ?_⟩; go_big_quiet_on)
    go_big_quiet_skip
    go_big_quiet_skip
    go_big_quiet_skip
    go_big_quiet_skip
    go_big_quiet_skip
    go_big_quiet_skip
    go_big_quiet_want; go_big_quiet_op; first | go_big_quiet_on | (refine ⟨_, fun _ _ => rfl, ?_⟩; go_big_quiet_on)
    refine wpQuiet_nil ?_
    intro w3 hw3
    have B3 := Lib.hid hw3.out
    clear hw3 HBD0
    have co0 := (BO.out.on B3.out).cell 0
    have co1 := (BO.out.on B3.out).cell 1
    have co2 := (BO.out.on B3.out).cell 2
    have co3 := (BO.out.on B3.out).cell 3
    simp at co0 co1 co2 co3
    have f0 := (BO.out.on B3.out).frozen 0
    have f1 := (BO.out.on B3.out).frozen 1
    have f2 := (BO.out.on B3.out).frozen 2
    have f3 := (BO.out.on B3.out).frozen 3
    have FF := Lib.hid (FIN.out _ B3.out)
    go_wp2
    refine bodyPost_ret (v := .tuple #[.agg #[.int .i64 0, .slice none 0 0, .int .i64 0, .slice none 0 0], .bool false]) ?_ rfl ?_
    · simp [results, Try.results42, go_sem, co0, co1, co2, co3]
    · unfold OfPost
      rw [HX.out]
      exact ⟨_, _, rfl, World.ownsRow_nil _ _ _ _, World.ownsRow_nil _ _ _ _, fun k hk => (by cases hk), (by first | exact below_set4 FF.out (by omega) | exact FF.out)⟩
  subst hpq
  cases k3 : odB known p
  · have HX := Lib.hid (show ofT p g p h known further ask = false from hb)
    go_enter Try.func42, Try.ntmps42
    go_wp2_with fail
    refine wp_region_cls (C := fun w' => Hid (Below W.heap.size W w')) (by kernel_rfl) (by kernel_rfl) HBD0 ?_
    go_big_quiet_want
    go_big_quiet_op
    refine ⟨.agg #[.int .i64 p, (.slice ga gn gc)], fun w' hw' => ?_, ?_⟩
    · have q := BG.out.on hw'.out
      have q0 := q.cell 0
      have q1 := q.cell 1
      simp at q0 q1
      simp [go_sem, q0, q1]
    go_big_quiet_on
    go_big_quiet_want; go_big_quiet_op
    go_big_quiet_call ((intro hw; exact (sgk_is k1 (HG.out _ hw.out) HP.out HSG.out).mono fun _ _ ⟨he, hb⟩ => ⟨he, Lib.hid (Below.on hw.out hb)⟩))
    go_big_quiet_want; go_big_quiet_op; first | go_big_quiet_on | (refine ⟨_, fun _ _ => rfl, ?_⟩; go_big_quiet_on)
    go_big_quiet_want; go_big_quiet_op; first | go_big_quiet_on | (refine ⟨_, fun _ _ => rfl, ?_⟩; go_big_quiet_on)
    go_big_quiet_want
    go_big_quiet_op
    refine ⟨.agg #[.int .i64 p, (.slice ha hn hk)], fun w' hw' => ?_, ?_⟩
    · have q := BH.out.on hw'.out
      have q0 := q.cell 0
      have q1 := q.cell 1
      simp at q0 q1
      simp [go_sem, q0, q1]
    go_big_quiet_on
    go_big_quiet_want; go_big_quiet_op
    go_big_quiet_call ((intro hw; exact (sgk_is k2 (HH.out _ hw.out) HQ.out HSH.out).mono fun _ _ ⟨he, hb⟩ => ⟨he, Lib.hid (Below.on hw.out hb)⟩))
    go_big_quiet_want; go_big_quiet_op; first | go_big_quiet_on | (refine ⟨_, fun _ _ => rfl, ?_⟩; go_big_quiet_on)
    go_big_quiet_want; go_big_quiet_op; first | go_big_quiet_on | (refine ⟨_, fun _ _ => rfl, ?_⟩; go_big_quiet_on)
    go_big_quiet_want; go_big_quiet_op; first | go_big_quiet_on | (refine ⟨_, fun _ _ => rfl, ?_⟩; go_big_quiet_on)
    go_big_quiet_want; go_big_quiet_op; first | go_big_quiet_on | (refine ⟨_, fun _ _ => rfl, ?_⟩; go_big_quiet_on)
    go_big_quiet_want
    go_big_quiet_op
    refine ⟨.int .i64 p, fun w' hw' => ?_, ?_⟩
    · have q := BG.out.on hw'.out
      have q0 := q.cell 0
      simp at q0
      simp [go_sem, q0]
    go_big_quiet_on
    go_big_quiet_want; go_big_quiet_op; first | go_big_quiet_on | (refine ⟨_, fun _ _ => rfl, ?_⟩; go_big_quiet_on)
    go_big_quiet_want
    go_big_quiet_op
    refine ⟨.int .i64 p, fun w' hw' => ?_, ?_⟩
    · have q := BH.out.on hw'.out
      have q0 := q.cell 0
      simp at q0
      simp [go_sem, q0]
    go_big_quiet_on
    go_big_quiet_want
    go_big_quiet_op
    refine ⟨.bool false, fun w' hw' => ?_, ?_⟩
    · simp [go_sem]
    go_big_quiet_on
    go_big_quiet_want; go_big_quiet_op; first | go_big_quiet_on | (refine ⟨_, fun _ _ => rfl, ?_⟩; go_big_quiet_on)
    go_big_quiet_want; go_big_quiet_op; first | go_big_quiet_on | (refine ⟨_, fun _ _ => rfl, ?_⟩; go_big_quiet_on)
    go_big_quiet_want; go_big_quiet_op; first | go_big_quiet_on | (refine ⟨_, fun _ _ => rfl, ?_⟩; go_big_quiet_on)
    go_big_quiet_want; go_big_quiet_op; first | go_big_quiet_on | (refine ⟨_, fun _ _ => rfl, ?_⟩; go_big_quiet_on)
    go_big_quiet_want
    go_big_quiet_op
    refine ⟨.int .i64 p, fun w' hw' => ?_, ?_⟩
    · have q := BG.out.on hw'.out
      have q0 := q.cell 0
      simp at q0
      simp [go_sem, q0]
    go_big_quiet_on
    go_big_quiet_want; go_big_quiet_op
    go_big_quiet_call ((intro hw; exact (sod_is k3 (HK.out _ hw.out)).mono fun _ _ ⟨he, hb⟩ => ⟨he, Lib.hid (Below.on hw.out hb)⟩))
    go_big_quiet_want; go_big_quiet_op; first | go_big_quiet_on | (refine ⟨_, fun _ _ => rfl, ?_⟩; go_big_quiet_on)
    go_big_quiet_want; go_big_quiet_op; first | go_big_quiet_on | (refine ⟨_, fun _ _ => rfl, ?_⟩; go_big_quiet_on)
    go_big_quiet_want; go_big_quiet_op; first | go_big_quiet_on | (refine ⟨_, fun _ _ => rfl, ?_⟩; go_big_quiet_on)
    go_big_quiet_skip
    go_big_quiet_skip
    go_big_quiet_skip
    go_big_quiet_skip
    go_big_quiet_skip
    go_big_quiet_want; go_big_quiet_op; first | go_big_quiet_on | (refine ⟨_, fun _ _ => rfl, ?_⟩; go_big_quiet_on)
    go_big_quiet_want; go_big_quiet_op; first | go_big_quiet_on | (refine ⟨_, fun _ _ => rfl, ?_⟩; go_big_quiet_on)
    go_big_quiet_skip
    go_big_quiet_skip
    go_big_quiet_skip
    go_big_quiet_want; go_big_quiet_op; first | go_big_quiet_on | (refine ⟨_, fun _ _ => rfl, ?_⟩; go_big_quiet_on)
    go_big_quiet_want; go_big_quiet_op; first | go_big_quiet_on | (refine ⟨_, fun _ _ => rfl, ?_⟩; go_big_quiet_on)
    go_big_quiet_skip
    go_big_quiet_skip
    go_big_quiet_skip
    go_big_quiet_skip
    go_big_quiet_skip
    go_big_quiet_skip
    go_big_quiet_want; go_big_quiet_op; first | go_big_quiet_on | (refine ⟨_, fun _ _ => rfl, ?_⟩; go_big_quiet_on)
    refine wpQuiet_nil ?_
    intro w3 hw3
    have B3 := Lib.hid hw3.out
    clear hw3 HBD0
    have co0 := (BO.out.on B3.out).cell 0
    have co1 := (BO.out.on B3.out).cell 1
    have co2 := (BO.out.on B3.out).cell 2
    have co3 := (BO.out.on B3.out).cell 3
    simp at co0 co1 co2 co3
    have f0 := (BO.out.on B3.out).frozen 0
    have f1 := (BO.out.on B3.out).frozen 1
    have f2 := (BO.out.on B3.out).frozen 2
    have f3 := (BO.out.on B3.out).frozen 3
    have FF := Lib.hid (FIN.out _ B3.out)
    go_wp2
    refine bodyPost_ret (v := .tuple #[.agg #[.int .i64 0, .slice none 0 0, .int .i64 0, .slice none 0 0], .bool false]) ?_ rfl ?_
    · simp [results, Try.results42, go_sem, co0, co1, co2, co3]
    · unfold OfPost
      rw [HX.out]
      exact ⟨_, _, rfl, World.ownsRow_nil _ _ _ _, World.ownsRow_nil _ _ _ _, fun k hk => (by cases hk), (by first | exact below_set4 FF.out (by omega) | exact FF.out)⟩
  cases k4 : odB further p
  · have HX := Lib.hid (show ofT p g p h known further ask = false from hb)
    go_enter Try.func42, Try.ntmps42
    go_wp2_with fail
    refine wp_region_cls (C := fun w' => Hid (Below W.heap.size W w')) (by kernel_rfl) (by kernel_rfl) HBD0 ?_
    go_big_quiet_want
    go_big_quiet_op
    refine ⟨.agg #[.int .i64 p, (.slice ga gn gc)], fun w' hw' => ?_, ?_⟩
    · have q := BG.out.on hw'.out
      have q0 := q.cell 0
      have q1 := q.cell 1
      simp at q0 q1
      simp [go_sem, q0, q1]
    go_big_quiet_on
    go_big_quiet_want; go_big_quiet_op
    go_big_quiet_call ((intro hw; exact (sgk_is k1 (HG.out _ hw.out) HP.out HSG.out).mono fun _ _ ⟨he, hb⟩ => ⟨he, Lib.hid (Below.on hw.out hb)⟩))
    go_big_quiet_want; go_big_quiet_op; first | go_big_quiet_on | (refine ⟨_, fun _ _ => rfl, ?_⟩; go_big_quiet_on)
    go_big_quiet_want; go_big_quiet_op; first | go_big_quiet_on | (refine ⟨_, fun _ _ => rfl, ?_⟩; go_big_quiet_on)
    go_big_quiet_want
    go_big_quiet_op
    refine ⟨.agg #[.int .i64 p, (.slice ha hn hk)], fun w' hw' => ?_, ?_⟩
    · have q := BH.out.on hw'.out
      have q0 := q.cell 0
      have q1 := q.cell 1
      simp at q0 q1
      simp [go_sem, q0, q1]
    go_big_quiet_on
    go_big_quiet_want; go_big_quiet_op
    go_big_quiet_call ((intro hw; exact (sgk_is k2 (HH.out _ hw.out) HQ.out HSH.out).mono fun _ _ ⟨he, hb⟩ => ⟨he, Lib.hid (Below.on hw.out hb)⟩))
    go_big_quiet_want; go_big_quiet_op; first | go_big_quiet_on | (refine ⟨_, fun _ _ => rfl, ?_⟩; go_big_quiet_on)
    go_big_quiet_want; go_big_quiet_op; first | go_big_quiet_on | (refine ⟨_, fun _ _ => rfl, ?_⟩; go_big_quiet_on)
    go_big_quiet_want; go_big_quiet_op; first | go_big_quiet_on | (refine ⟨_, fun _ _ => rfl, ?_⟩; go_big_quiet_on)
    go_big_quiet_want; go_big_quiet_op; first | go_big_quiet_on | (refine ⟨_, fun _ _ => rfl, ?_⟩; go_big_quiet_on)
    go_big_quiet_want
    go_big_quiet_op
    refine ⟨.int .i64 p, fun w' hw' => ?_, ?_⟩
    · have q := BG.out.on hw'.out
      have q0 := q.cell 0
      simp at q0
      simp [go_sem, q0]
    go_big_quiet_on
    go_big_quiet_want; go_big_quiet_op; first | go_big_quiet_on | (refine ⟨_, fun _ _ => rfl, ?_⟩; go_big_quiet_on)
    go_big_quiet_want
    go_big_quiet_op
    refine ⟨.int .i64 p, fun w' hw' => ?_, ?_⟩
    · have q := BH.out.on hw'.out
      have q0 := q.cell 0
      simp at q0
      simp [go_sem, q0]
    go_big_quiet_on
    go_big_quiet_want
    go_big_quiet_op
    refine ⟨.bool false, fun w' hw' => ?_, ?_⟩
    · simp [go_sem]
    go_big_quiet_on
    go_big_quiet_want; go_big_quiet_op; first | go_big_quiet_on | (refine ⟨_, fun _ _ => rfl, ?_⟩; go_big_quiet_on)
    go_big_quiet_want; go_big_quiet_op; first | go_big_quiet_on | (refine ⟨_, fun _ _ => rfl, ?_⟩; go_big_quiet_on)
    go_big_quiet_want; go_big_quiet_op; first | go_big_quiet_on | (refine ⟨_, fun _ _ => rfl, ?_⟩; go_big_quiet_on)
    go_big_quiet_want; go_big_quiet_op; first | go_big_quiet_on | (refine ⟨_, fun _ _ => rfl, ?_⟩; go_big_quiet_on)
    go_big_quiet_want
    go_big_quiet_op
    refine ⟨.int .i64 p, fun w' hw' => ?_, ?_⟩
    · have q := BG.out.on hw'.out
      have q0 := q.cell 0
      simp at q0
      simp [go_sem, q0]
    go_big_quiet_on
    go_big_quiet_want; go_big_quiet_op
    go_big_quiet_call ((intro hw; exact (sod_is k3 (HK.out _ hw.out)).mono fun _ _ ⟨he, hb⟩ => ⟨he, Lib.hid (Below.on hw.out hb)⟩))
    go_big_quiet_want; go_big_quiet_op; first | go_big_quiet_on | (refine ⟨_, fun _ _ => rfl, ?_⟩; go_big_quiet_on)
    go_big_quiet_want; go_big_quiet_op; first | go_big_quiet_on | (refine ⟨_, fun _ _ => rfl, ?_⟩; go_big_quiet_on)
    go_big_quiet_want; go_big_quiet_op; first | go_big_quiet_on | (refine ⟨_, fun _ _ => rfl, ?_⟩; go_big_quiet_on)
    go_big_quiet_want; go_big_quiet_op; first | go_big_quiet_on | (refine ⟨_, fun _ _ => rfl, ?_⟩; go_big_quiet_on)
    go_big_quiet_want; go_big_quiet_op; first | go_big_quiet_on | (refine ⟨_, fun _ _ => rfl, ?_⟩; go_big_quiet_on)
    go_big_quiet_want
    go_big_quiet_op
    refine ⟨.int .i64 p, fun w' hw' => ?_, ?_⟩
    · have q := BG.out.on hw'.out
      have q0 := q.cell 0
      simp at q0
      simp [go_sem, q0]
    go_big_quiet_on
    go_big_quiet_want; go_big_quiet_op
    go_big_quiet_call ((intro hw; exact (sod_is k4 (HF.out _ hw.out)).mono fun _ _ ⟨he, hb⟩ => ⟨he, Lib.hid (Below.on hw.out hb)⟩))
    go_big_quiet_want; go_big_quiet_op; first | go_big_quiet_on | (refine ⟨_, fun _ _ => rfl, ?_⟩; go_big_quiet_on)
    go_big_quiet_want; go_big_quiet_op; first | go_big_quiet_on | (refine ⟨_, fun _ _ => rfl, ?_⟩; go_big_quiet_on)
    go_big_quiet_want; go_big_quiet_op; first | go_big_quiet_on | (refine ⟨_, fun _ _ => rfl, ?_⟩; go_big_quiet_on)
    go_big_quiet_skip
    go_big_quiet_skip
    go_big_quiet_skip
    go_big_quiet_want; go_big_quiet_op; first | go_big_quiet_on | (refine ⟨_, fun _ _ => rfl, ?_⟩; go_big_quiet_on)
    go_big_quiet_want; go_big_quiet_op; first | go_big_quiet_on | (refine ⟨_, fun _ _ => rfl, ?_⟩; go_big_quiet_on)
    go_big_quiet_skip
    go_big_quiet_skip
    go_big_quiet_skip
    go_big_quiet_skip
    go_big_quiet_skip
    go_big_quiet_skip
    go_big_quiet_want; go_big_quiet_op; first | go_big_quiet_on | (refine ⟨_, fun _ _ => rfl, ?_⟩; go_big_quiet_on)
    refine wpQuiet_nil ?_
    intro w3 hw3
    have B3 := Lib.hid hw3.out
    clear hw3 HBD0
    have co0 := (BO.out.on B3.out).cell 0
    have co1 := (BO.out.on B3.out).cell 1
    have co2 := (BO.out.on B3.out).cell 2
    have co3 := (BO.out.on B3.out).cell 3
    simp at co0 co1 co2 co3
    have f0 := (BO.out.on B3.out).frozen 0
    have f1 := (BO.out.on B3.out).frozen 1
    have f2 := (BO.out.on B3.out).frozen 2
    have f3 := (BO.out.on B3.out).frozen 3
    have FF := Lib.hid (FIN.out _ B3.out)
    go_wp2
    refine bodyPost_ret (v := .tuple #[.agg #[.int .i64 0, .slice none 0 0, .int .i64 0, .slice none 0 0], .bool false]) ?_ rfl ?_
    · simp [results, Try.results42, go_sem, co0, co1, co2, co3]
    · unfold OfPost
      rw [HX.out]
      exact ⟨_, _, rfl, World.ownsRow_nil _ _ _ _, World.ownsRow_nil _ _ _ _, fun k hk => (by cases hk), (by first | exact below_set4 FF.out (by omega) | exact FF.out)⟩
  cases k5 : (decide (0 ≤ ask) && decide (ask ≤ 1))
  · have HX := Lib.hid (show ofT p g p h known further ask = false from hb)
    go_enter Try.func42, Try.ntmps42
    go_wp2_with fail
    refine wp_region_cls (C := fun w' => Hid (Below W.heap.size W w')) (by kernel_rfl) (by kernel_rfl) HBD0 ?_
    go_big_quiet_want
    go_big_quiet_op
    refine ⟨.agg #[.int .i64 p, (.slice ga gn gc)], fun w' hw' => ?_, ?_⟩
    · have q := BG.out.on hw'.out
      have q0 := q.cell 0
      have q1 := q.cell 1
      simp at q0 q1
      simp [go_sem, q0, q1]
    go_big_quiet_on
    go_big_quiet_want; go_big_quiet_op
    go_big_quiet_call ((intro hw; exact (sgk_is k1 (HG.out _ hw.out) HP.out HSG.out).mono fun _ _ ⟨he, hb⟩ => ⟨he, Lib.hid (Below.on hw.out hb)⟩))
    go_big_quiet_want; go_big_quiet_op; first | go_big_quiet_on | (refine ⟨_, fun _ _ => rfl, ?_⟩; go_big_quiet_on)
    go_big_quiet_want; go_big_quiet_op; first | go_big_quiet_on | (refine ⟨_, fun _ _ => rfl, ?_⟩; go_big_quiet_on)
    go_big_quiet_want
    go_big_quiet_op
    refine ⟨.agg #[.int .i64 p, (.slice ha hn hk)], fun w' hw' => ?_, ?_⟩
    · have q := BH.out.on hw'.out
      have q0 := q.cell 0
      have q1 := q.cell 1
      simp at q0 q1
      simp [go_sem, q0, q1]
    go_big_quiet_on
    go_big_quiet_want; go_big_quiet_op
    go_big_quiet_call ((intro hw; exact (sgk_is k2 (HH.out _ hw.out) HQ.out HSH.out).mono fun _ _ ⟨he, hb⟩ => ⟨he, Lib.hid (Below.on hw.out hb)⟩))
    go_big_quiet_want; go_big_quiet_op; first | go_big_quiet_on | (refine ⟨_, fun _ _ => rfl, ?_⟩; go_big_quiet_on)
    go_big_quiet_want; go_big_quiet_op; first | go_big_quiet_on | (refine ⟨_, fun _ _ => rfl, ?_⟩; go_big_quiet_on)
    go_big_quiet_want; go_big_quiet_op; first | go_big_quiet_on | (refine ⟨_, fun _ _ => rfl, ?_⟩; go_big_quiet_on)
    go_big_quiet_want; go_big_quiet_op; first | go_big_quiet_on | (refine ⟨_, fun _ _ => rfl, ?_⟩; go_big_quiet_on)
    go_big_quiet_want
    go_big_quiet_op
    refine ⟨.int .i64 p, fun w' hw' => ?_, ?_⟩
    · have q := BG.out.on hw'.out
      have q0 := q.cell 0
      simp at q0
      simp [go_sem, q0]
    go_big_quiet_on
    go_big_quiet_want; go_big_quiet_op; first | go_big_quiet_on | (refine ⟨_, fun _ _ => rfl, ?_⟩; go_big_quiet_on)
    go_big_quiet_want
    go_big_quiet_op
    refine ⟨.int .i64 p, fun w' hw' => ?_, ?_⟩
    · have q := BH.out.on hw'.out
      have q0 := q.cell 0
      simp at q0
      simp [go_sem, q0]
    go_big_quiet_on
    go_big_quiet_want
    go_big_quiet_op
    refine ⟨.bool false, fun w' hw' => ?_, ?_⟩
    · simp [go_sem]
    go_big_quiet_on
    go_big_quiet_want; go_big_quiet_op; first | go_big_quiet_on | (refine ⟨_, fun _ _ => rfl, ?_⟩; go_big_quiet_on)
    go_big_quiet_want; go_big_quiet_op; first | go_big_quiet_on | (refine ⟨_, fun _ _ => rfl, ?_⟩; go_big_quiet_on)
    go_big_quiet_want; go_big_quiet_op; first | go_big_quiet_on | (refine ⟨_, fun _ _ => rfl, ?_⟩; go_big_quiet_on)
    go_big_quiet_want; go_big_quiet_op; first | go_big_quiet_on | (refine ⟨_, fun _ _ => rfl, ?_⟩; go_big_quiet_on)
    go_big_quiet_want
    go_big_quiet_op
    refine ⟨.int .i64 p, fun w' hw' => ?_, ?_⟩
    · have q := BG.out.on hw'.out
      have q0 := q.cell 0
      simp at q0
      simp [go_sem, q0]
    go_big_quiet_on
    go_big_quiet_want; go_big_quiet_op
    go_big_quiet_call ((intro hw; exact (sod_is k3 (HK.out _ hw.out)).mono fun _ _ ⟨he, hb⟩ => ⟨he, Lib.hid (Below.on hw.out hb)⟩))
    go_big_quiet_want; go_big_quiet_op; first | go_big_quiet_on | (refine ⟨_, fun _ _ => rfl, ?_⟩; go_big_quiet_on)
    go_big_quiet_want; go_big_quiet_op; first | go_big_quiet_on | (refine ⟨_, fun _ _ => rfl, ?_⟩; go_big_quiet_on)
    go_big_quiet_want; go_big_quiet_op; first | go_big_quiet_on | (refine ⟨_, fun _ _ => rfl, ?_⟩; go_big_quiet_on)
    go_big_quiet_want; go_big_quiet_op; first | go_big_quiet_on | (refine ⟨_, fun _ _ => rfl, ?_⟩; go_big_quiet_on)
    go_big_quiet_want; go_big_quiet_op; first | go_big_quiet_on | (refine ⟨_, fun _ _ => rfl, ?_⟩; go_big_quiet_on)
    go_big_quiet_want
    go_big_quiet_op
    refine ⟨.int .i64 p, fun w' hw' => ?_, ?_⟩
    · have q := BG.out.on hw'.out
      have q0 := q.cell 0
      simp at q0
      simp [go_sem, q0]
    go_big_quiet_on
    go_big_quiet_want; go_big_quiet_op
    go_big_quiet_call ((intro hw; exact (sod_is k4 (HF.out _ hw.out)).mono fun _ _ ⟨he, hb⟩ => ⟨he, Lib.hid (Below.on hw.out hb)⟩))
    go_big_quiet_want; go_big_quiet_op; first | go_big_quiet_on | (refine ⟨_, fun _ _ => rfl, ?_⟩; go_big_quiet_on)
    go_big_quiet_want; go_big_quiet_op; first | go_big_quiet_on | (refine ⟨_, fun _ _ => rfl, ?_⟩; go_big_quiet_on)
    go_big_quiet_want; go_big_quiet_op; first | go_big_quiet_on | (refine ⟨_, fun _ _ => rfl, ?_⟩; go_big_quiet_on)
    go_big_quiet_want; go_big_quiet_op; first | go_big_quiet_on | (refine ⟨_, fun _ _ => rfl, ?_⟩; go_big_quiet_on)
    go_big_quiet_want; go_big_quiet_op
    go_big_quiet_call ((intro hw; exact (l1In_tb k5 _).mono fun _ _ ⟨he, hb⟩ => ⟨he, by rw [← hb]; exact hw⟩))
    go_big_quiet_want; go_big_quiet_op; first | go_big_quiet_on | (refine ⟨_, fun _ _ => rfl, ?_⟩; go_big_quiet_on)
    go_big_quiet_want; go_big_quiet_op; first | go_big_quiet_on | (refine ⟨_, fun _ _ => rfl, ?_⟩; go_big_quiet_on)
    go_big_quiet_want; go_big_quiet_op; first | go_big_quiet_on | (refine ⟨_, fun _ _ => rfl, ?_⟩; go_big_quiet_on)
    go_big_quiet_skip
    go_big_quiet_skip
    go_big_quiet_skip
    go_big_quiet_skip
    go_big_quiet_skip
    go_big_quiet_skip
    go_big_quiet_want; go_big_quiet_op; first | go_big_quiet_on | (refine ⟨_, fun _ _ => rfl, ?_⟩; go_big_quiet_on)
    refine wpQuiet_nil ?_
    intro w3 hw3
    have B3 := Lib.hid hw3.out
    clear hw3 HBD0
    have co0 := (BO.out.on B3.out).cell 0
    have co1 := (BO.out.on B3.out).cell 1
    have co2 := (BO.out.on B3.out).cell 2
    have co3 := (BO.out.on B3.out).cell 3
    simp at co0 co1 co2 co3
    have f0 := (BO.out.on B3.out).frozen 0
    have f1 := (BO.out.on B3.out).frozen 1
    have f2 := (BO.out.on B3.out).frozen 2
    have f3 := (BO.out.on B3.out).frozen 3
    have FF := Lib.hid (FIN.out _ B3.out)
    go_wp2
    refine bodyPost_ret (v := .tuple #[.agg #[.int .i64 0, .slice none 0 0, .int .i64 0, .slice none 0 0], .bool false]) ?_ rfl ?_
    · simp [results, Try.results42, go_sem, co0, co1, co2, co3]
    · unfold OfPost
      rw [HX.out]
      exact ⟨_, _, rfl, World.ownsRow_nil _ _ _ _, World.ownsRow_nil _ _ _ _, fun k hk => (by cases hk), (by first | exact below_set4 FF.out (by omega) | exact FF.out)⟩
  have hl : leads g h known = false := by
    cases hl : leads g h known
    · rfl
    · exact absurd (show ofT p g p h known further ask = true by
        have k6 := k5
        rw [Bool.and_eq_true] at k6
        unfold ofT btB; rw [k1, k2, k3, k4, hl, k6.1, k6.2]; simp) (by rw [hb]; decide)
  have HX := Lib.hid (show ofT p g p h known further ask = false from hb)
  have HL := Lib.hid hl
  have HGK := Lib.hid (gkB_true.1 k1)
  have HKD := Lib.hid (odB_true.1 k3)
  clear hl hb
  have HBD : Hid (My W (mov known g) none (((w.alloc (.cells #[.int .i64 p, (.slice ga gn gc)] 30)).alloc (.cells #[.int .i64 p, (.slice ha hn hk)] 30)).alloc (.cells #[.int .i64 0, .slice none 0 0, .int .i64 0, .slice none 0 0] 60)).drew) := Lib.hid ⟨HBD0.out, fun v e => by cases e⟩
  clear HBD0
  go_enter Try.func42, Try.ntmps42
  go_wp2_with fail
  apply wp_region_H (Z := Option Value) (S := fun k => k == 37 || k == 39 || k == 40 || k == 41) (C := fun z w' => Hid (My W (mov known g) z w')) [0, 1, 2, 3, 4, 5, 6, 7, 8, 9, 10, 11, 12, 13, 14, 15, 16, 17, 18, 19, 20, 21, 22, 23, 24, 25, 26, 27, 28, 29, 30, 31, 32, 33, 34, 35, 36, 38] none
  · kernel_rfl
  · kernel_rfl
  · kernel_rfl
  · exact ⟨rfl, rfl, rfl, rfl, rfl, rfl, rfl, rfl, rfl, rfl, rfl, rfl, rfl, rfl, rfl, rfl, rfl, rfl, rfl, rfl, rfl, rfl, rfl, rfl, rfl, rfl, rfl, rfl, rfl, rfl, rfl, rfl, rfl, rfl, rfl, rfl, rfl, rfl, trivial⟩
  · rfl
  · decide
  · exact HBD
  · intro zz
    dsimp only [pickL, nthO]
    go_big_quiet_want
    go_big_quiet_op
    refine ⟨.agg #[.int .i64 p, (.slice ga gn gc)], fun w' hw' => ?_, ?_⟩
    · have q := BG.out.on hw'.out.1
      have q0 := q.cell 0
      have q1 := q.cell 1
      simp at q0 q1
      simp [go_sem, q0, q1]
    go_big_quiet_on
    go_big_quiet_want; go_big_quiet_op
    go_big_quiet_call ((intro hw; exact (sgk_is k1 (HG.out _ hw.out.1) HP.out HSG.out).mono fun _ _ ⟨he, hb⟩ => ⟨he, Lib.hid ⟨Below.on hw.out.1 hb, fun v e => hw.out.2 v e |>.below hb⟩⟩))
    go_big_quiet_want; go_big_quiet_op; first | go_big_quiet_on | (refine ⟨_, fun _ _ => rfl, ?_⟩; go_big_quiet_on)
    go_big_quiet_want; go_big_quiet_op; first | go_big_quiet_on | (refine ⟨_, fun _ _ => rfl, ?_⟩; go_big_quiet_on)
    go_big_quiet_want
    go_big_quiet_op
    refine ⟨.agg #[.int .i64 p, (.slice ha hn hk)], fun w' hw' => ?_, ?_⟩
    · have q := BH.out.on hw'.out.1
      have q0 := q.cell 0
      have q1 := q.cell 1
      simp at q0 q1
      simp [go_sem, q0, q1]
    go_big_quiet_on
    go_big_quiet_want; go_big_quiet_op
    go_big_quiet_call ((intro hw; exact (sgk_is k2 (HH.out _ hw.out.1) HQ.out HSH.out).mono fun _ _ ⟨he, hb⟩ => ⟨he, Lib.hid ⟨Below.on hw.out.1 hb, fun v e => hw.out.2 v e |>.below hb⟩⟩))
    go_big_quiet_want; go_big_quiet_op; first | go_big_quiet_on | (refine ⟨_, fun _ _ => rfl, ?_⟩; go_big_quiet_on)
    go_big_quiet_want; go_big_quiet_op; first | go_big_quiet_on | (refine ⟨_, fun _ _ => rfl, ?_⟩; go_big_quiet_on)
    go_big_quiet_want; go_big_quiet_op; first | go_big_quiet_on | (refine ⟨_, fun _ _ => rfl, ?_⟩; go_big_quiet_on)
    go_big_quiet_want; go_big_quiet_op; first | go_big_quiet_on | (refine ⟨_, fun _ _ => rfl, ?_⟩; go_big_quiet_on)
    go_big_quiet_want
    go_big_quiet_op
    refine ⟨.int .i64 p, fun w' hw' => ?_, ?_⟩
    · have q := BG.out.on hw'.out.1
      have q0 := q.cell 0
      simp at q0
      simp [go_sem, q0]
    go_big_quiet_on
    go_big_quiet_want; go_big_quiet_op; first | go_big_quiet_on | (refine ⟨_, fun _ _ => rfl, ?_⟩; go_big_quiet_on)
    go_big_quiet_want
    go_big_quiet_op
    refine ⟨.int .i64 p, fun w' hw' => ?_, ?_⟩
    · have q := BH.out.on hw'.out.1
      have q0 := q.cell 0
      simp at q0
      simp [go_sem, q0]
    go_big_quiet_on
    go_big_quiet_want
    go_big_quiet_op
    refine ⟨.bool false, fun w' hw' => ?_, ?_⟩
    · simp [go_sem]
    go_big_quiet_on
    go_big_quiet_want; go_big_quiet_op; first | go_big_quiet_on | (refine ⟨_, fun _ _ => rfl, ?_⟩; go_big_quiet_on)
    go_big_quiet_want; go_big_quiet_op; first | go_big_quiet_on | (refine ⟨_, fun _ _ => rfl, ?_⟩; go_big_quiet_on)
    go_big_quiet_want; go_big_quiet_op; first | go_big_quiet_on | (refine ⟨_, fun _ _ => rfl, ?_⟩; go_big_quiet_on)
    go_big_quiet_want; go_big_quiet_op; first | go_big_quiet_on | (refine ⟨_, fun _ _ => rfl, ?_⟩; go_big_quiet_on)
    go_big_quiet_want
    go_big_quiet_op
    refine ⟨.int .i64 p, fun w' hw' => ?_, ?_⟩
    · have q := BG.out.on hw'.out.1
      have q0 := q.cell 0
      simp at q0
      simp [go_sem, q0]
    go_big_quiet_on
    go_big_quiet_want; go_big_quiet_op
    go_big_quiet_call ((intro hw; exact (sod_is k3 (HK.out _ hw.out.1)).mono fun _ _ ⟨he, hb⟩ => ⟨he, Lib.hid ⟨Below.on hw.out.1 hb, fun v e => hw.out.2 v e |>.below hb⟩⟩))
    go_big_quiet_want; go_big_quiet_op; first | go_big_quiet_on | (refine ⟨_, fun _ _ => rfl, ?_⟩; go_big_quiet_on)
    go_big_quiet_want; go_big_quiet_op; first | go_big_quiet_on | (refine ⟨_, fun _ _ => rfl, ?_⟩; go_big_quiet_on)
    go_big_quiet_want; go_big_quiet_op; first | go_big_quiet_on | (refine ⟨_, fun _ _ => rfl, ?_⟩; go_big_quiet_on)
    go_big_quiet_want; go_big_quiet_op; first | go_big_quiet_on | (refine ⟨_, fun _ _ => rfl, ?_⟩; go_big_quiet_on)
    go_big_quiet_want; go_big_quiet_op; first | go_big_quiet_on | (refine ⟨_, fun _ _ => rfl, ?_⟩; go_big_quiet_on)
    go_big_quiet_want
    go_big_quiet_op
    refine ⟨.int .i64 p, fun w' hw' => ?_, ?_⟩
    · have q := BG.out.on hw'.out.1
      have q0 := q.cell 0
      simp at q0
      simp [go_sem, q0]
    go_big_quiet_on
    go_big_quiet_want; go_big_quiet_op
    go_big_quiet_call ((intro hw; exact (sod_is k4 (HF.out _ hw.out.1)).mono fun _ _ ⟨he, hb⟩ => ⟨he, Lib.hid ⟨Below.on hw.out.1 hb, fun v e => hw.out.2 v e |>.below hb⟩⟩))
    go_big_quiet_want; go_big_quiet_op; first | go_big_quiet_on | (refine ⟨_, fun _ _ => rfl, ?_⟩; go_big_quiet_on)
    go_big_quiet_want; go_big_quiet_op; first | go_big_quiet_on | (refine ⟨_, fun _ _ => rfl, ?_⟩; go_big_quiet_on)
    go_big_quiet_want; go_big_quiet_op; first | go_big_quiet_on | (refine ⟨_, fun _ _ => rfl, ?_⟩; go_big_quiet_on)
    go_big_quiet_want; go_big_quiet_op; first | go_big_quiet_on | (refine ⟨_, fun _ _ => rfl, ?_⟩; go_big_quiet_on)
    go_big_quiet_want; go_big_quiet_op
    go_big_quiet_call ((intro hw; exact (l1In_tb k5 _).mono fun _ _ ⟨he, hb⟩ => ⟨he, by rw [← hb]; exact hw⟩))
    go_big_quiet_want; go_big_quiet_op; first | go_big_quiet_on | (refine ⟨_, fun _ _ => rfl, ?_⟩; go_big_quiet_on)
    go_big_quiet_want; go_big_quiet_op; first | go_big_quiet_on | (refine ⟨_, fun _ _ => rfl, ?_⟩; go_big_quiet_on)
    go_big_quiet_want; go_big_quiet_op; first | go_big_quiet_on | (refine ⟨_, fun _ _ => rfl, ?_⟩; go_big_quiet_on)
    go_big_quiet_want
    go_big_quiet_op
    refine ⟨.agg #[.int .i64 p, (.slice ga gn gc)], fun w' hw' => ?_, ?_⟩
    · have q := BG.out.on hw'.out.1
      have q0 := q.cell 0
      have q1 := q.cell 1
      simp at q0 q1
      simp [go_sem, q0, q1]
    go_big_quiet_on
    go_big_quiet_want; go_big_quiet_op; first | go_big_quiet_on | (refine ⟨_, fun _ _ => rfl, ?_⟩; go_big_quiet_on)
    go_big_quiet_want
    go_big_quiet_op
    refine ⟨.agg #[.int .i64 p, (.slice ha hn hk)], fun w' hw' => ?_, ?_⟩
    · have q := BH.out.on hw'.out.1
      have q0 := q.cell 0
      have q1 := q.cell 1
      simp at q0 q1
      simp [go_sem, q0, q1]
    go_big_quiet_on
    exact wpQuiet_nil rfl
  refine wpAnyH_call (i := 37) (d := some 50) 44 #[.agg #[.int .i64 p, (.slice ga gn gc)], kv] rfl (by kernel_rfl) rfl rfl (by kernel_rfl) (fun _ => by kernel_rfl) fun wa hc => ?_
  refine (smov_any p (.slice ga gn gc) kv g known wa (HG.out _ hc.out.1) (HK.out _ hc.out.1) HGK.out HKD.out).mono ?_
  rintro e wc ⟨mv, rfl, om, hb⟩
  refine ⟨_, rfl, some mv, Lib.hid ⟨Below.on hc.out.1 hb, fun v e => by cases e; exact Ints.of_own om (by rw [mov_len HKD.out HGK.out]; exact HFG.out)⟩, ?_⟩
  clear hc om hb
  refine wpAnyH_call (i := 39) (d := some 52) 65 #[.agg #[.int .i64 p, mv], .agg #[.int .i64 p, (.slice ha hn hk)]] rfl (by kernel_rfl) rfl rfl (by kernel_rfl) (fun _ => by kernel_rfl) fun wd hc => ?_
  refine (ssg_ld HL.out (hc.out.2 mv rfl) (HH.out _ hc.out.1)).mono ?_
  rintro e we ⟨rfl, hb⟩
  refine ⟨_, rfl, none, Lib.hid ⟨Below.on hc.out.1 hb, fun v e => by cases e⟩, ?_⟩
  clear hc hb
  refine wpAnyH_special (i := 40) (d := some 53) rfl (by kernel_rfl) rfl rfl (by kernel_rfl) fun wa hc => ⟨.bool true, wa, none, .inl (by kernel_rfl), hc, ?_⟩
  clear hc
  refine wpAnyH_special (i := 41) (d := some 54) rfl (by kernel_rfl) rfl rfl (by kernel_rfl) fun wa hc => ⟨.bool true, wa, none, .inl (by kernel_rfl), hc, ?_⟩
  clear hc
  refine ⟨by kernel_rfl, fun w3 hw3 => ?_⟩
  simp only [Act.put, List.setIfInBounds_toArray, List.set_cons_succ, List.set_cons_zero]
  have B3 := Lib.hid hw3.out.1
  clear hw3 HBD
  have co0 := (BO.out.on B3.out).cell 0
  have co1 := (BO.out.on B3.out).cell 1
  have co2 := (BO.out.on B3.out).cell 2
  have co3 := (BO.out.on B3.out).cell 3
  simp at co0 co1 co2 co3
  have f0 := (BO.out.on B3.out).frozen 0
  have f1 := (BO.out.on B3.out).frozen 1
  have f2 := (BO.out.on B3.out).frozen 2
  have f3 := (BO.out.on B3.out).frozen 3
  have FF := Lib.hid (FIN.out _ B3.out)
  go_wp2
  refine bodyPost_ret (v := .tuple #[.agg #[.int .i64 0, .slice none 0 0, .int .i64 0, .slice none 0 0], .bool false]) ?_ rfl ?_
  · simp [results, Try.results42, go_sem, co0, co1, co2, co3]
  · unfold OfPost
    rw [HX.out]
    exact ⟨_, _, rfl, World.ownsRow_nil _ _ _ _, World.ownsRow_nil _ _ _ _, fun k hk => (by cases hk), (by first | exact below_set4 FF.out (by omega) | exact FF.out)⟩

set_option maxRecDepth 20000 in
set_option maxHeartbeats 1600000 in
theorem stof_0 (p q ask : Int) (ga ha : Option Addr) (gn gc hn hk : Nat) (kv fv : Value) (g h known further : List Int) (w : World) (hg : Ints w (.slice ga gn gc) g) (hh : Ints w (.slice ha hn hk) h) (hkn : Ints w kv known) (hf : Ints w fv further) (hp : intIn p) (hq : intIn q) (hs : ∀ j, j < g.length → intIn (nth g j)) (hs' : ∀ j, j < h.length → intIn (nth h j)) (hb : ofT p g q h known further ask = true) (hask : (ask == 1) = false) :
    Calls Try.prog 42 #[.agg #[.int .i64 p, (.slice ga gn gc)], .agg #[.int .i64 q, (.slice ha hn hk)], kv, fv, .int .i64 ask] w (OfPost p g q h known further ask w) := by
  have hm := ofT_true.1 hb
  obtain rfl := hm.e
  have k1 := gkB_true.2 hm.gg
  have k2 := gkB_true.2 hm.gh
  have k3 := odB_true.2 hm.ok
  have k4 := odB_true.2 hm.of
  have k5 : (decide (0 ≤ ask) && decide (ask ≤ 1)) = true := by rw [decide_eq_true hm.a0, decide_eq_true hm.a1]; rfl
  obtain ⟨ta0, tc, etv, kk⟩ := hf.opened
  obtain ⟨u, hu⟩ : ∃ u, further.length = u := ⟨_, rfl⟩
  have hu5 : 1 ≤ u ∧ u ≤ 5 := by have := hm.of.len; have := hm.gg.p1; have := hm.gg.p5; omega
  rw [hu] at etv
  obtain ⟨TL, etl, _, _⟩ := kk.get 0 (by omega)
  subst etl
  have HTC := Lib.hid (show ∀ w', Below w.heap.size w w' → ∀ j, j < u → w'.cell? ⟨TL, j, none⟩ = some (.int .i64 (nth further j)) from fun w' hb j hj => by
    obtain ⟨M, e1, hl, e2⟩ := kk.get j (by omega)
    cases e1
    exact (hb.cell (p := ⟨TL, j, none⟩) hl).trans e2)
  subst etv
  have HU := Lib.hid hu
  have HX : Hid (ofT p g p h known further ask = true ∧ toldT known further ask = further) := Lib.hid ⟨hb, by
    have ha : ask ≠ 1 := by simpa using hask
    unfold toldT
    rw [if_neg ha]⟩
  have HGK := Lib.hid hm.gg
  have HKD := Lib.hid hm.ok
  have HFD := Lib.hid hm.of
  have HL := Lib.hid (leads_true.2 hm.lead)
  have HF2 : Hid ((bkL known).length ≤ maxLen) := Lib.hid (by
    unfold bkL; split
    · rw [bck_len]; exact few_of hkn
    · simp)
  have HB3 := boxes3w (w := w) [.int .i64 p, (.slice ga gn gc)] [.int .i64 p, (.slice ha hn hk)] [.int .i64 0, .slice none 0 0, .int .i64 0, .slice none 0 0] 30 30 60
  obtain ⟨W, hWe, hWs, hW, b0, b1, b2⟩ := HB3.out
  have B0 : Hid (Below W.heap.size W (((w.alloc (.cells #[.int .i64 p, (.slice ga gn gc)] 30)).alloc (.cells #[.int .i64 p, (.slice ha hn hk)] 30)).alloc (.cells #[.int .i64 0, .slice none 0 0, .int .i64 0, .slice none 0 0] 60))) := Lib.hid (by rw [hWe]; exact Below.refl _ _)
  have HBD0 : Hid (Below W.heap.size W (((w.alloc (.cells #[.int .i64 p, (.slice ga gn gc)] 30)).alloc (.cells #[.int .i64 p, (.slice ha hn hk)] 30)).alloc (.cells #[.int .i64 0, .slice none 0 0, .int .i64 0, .slice none 0 0] 60)).drew) := Lib.hid (by rw [hWe]; exact (Below.refl _ _).drew)
  have HW := Lib.hid hW
  have HWS := Lib.hid hWs
  have BG := Lib.hid b0
  have BH := Lib.hid b1
  have BO := Lib.hid b2
  have HG := Lib.hid (show ∀ w', Below W.heap.size W w' → Ints w' (.slice ga gn gc) g from fun w' hb => (hg.below hW).below hb)
  have HH := Lib.hid (show ∀ w', Below W.heap.size W w' → Ints w' (.slice ha hn hk) h from fun w' hb => (hh.below hW).below hb)
  have HK := Lib.hid (show ∀ w', Below W.heap.size W w' → Ints w' kv known from fun w' hb => (hkn.below hW).below hb)
  have HF := Lib.hid (show ∀ w', Below W.heap.size W w' → Ints w' (.slice (some ⟨TL, 0, none⟩) u tc) further from fun w' hb => (hf.below hW).below hb)
  have HFG := Lib.hid (few_of hg)
  have HSG := Lib.hid hs
  have HSH := Lib.hid hs'
  have HP := Lib.hid hp
  have HQ := Lib.hid hq
  have FIN : Hid (∀ w', Below W.heap.size W w' → Below w.heap.size w w') := Lib.hid fun w' hb => hW.trans (hb.mono hW.size)
  clear hm hb kk hu
  clear HB3 hWe hWs hW b0 b1 b2 hg hh hkn hf hs hs' hp hq
  have HBD : Hid (My W (mov known g) none (((w.alloc (.cells #[.int .i64 p, (.slice ga gn gc)] 30)).alloc (.cells #[.int .i64 p, (.slice ha hn hk)] 30)).alloc (.cells #[.int .i64 0, .slice none 0 0, .int .i64 0, .slice none 0 0] 60)).drew) := Lib.hid ⟨HBD0.out, fun v e => by cases e⟩
  clear HBD0
  go_enter Try.func42, Try.ntmps42
  go_wp2_with fail
  apply wp_region_H (Z := Option Value) (S := fun k => k == 37 || k == 39 || k == 40 || k == 41) (C := fun z w' => Hid (My W (mov known g) z w')) [0, 1, 2, 3, 4, 5, 6, 7, 8, 9, 10, 11, 12, 13, 14, 15, 16, 17, 18, 19, 20, 21, 22, 23, 24, 25, 26, 27, 28, 29, 30, 31, 32, 33, 34, 35, 36, 38] none
  · kernel_rfl
  · kernel_rfl
  · kernel_rfl
  · exact ⟨rfl, rfl, rfl, rfl, rfl, rfl, rfl, rfl, rfl, rfl, rfl, rfl, rfl, rfl, rfl, rfl, rfl, rfl, rfl, rfl, rfl, rfl, rfl, rfl, rfl, rfl, rfl, rfl, rfl, rfl, rfl, rfl, rfl, rfl, rfl, rfl, rfl, rfl, trivial⟩
  · rfl
  · decide
  · exact HBD
  · intro zz
    dsimp only [pickL, nthO]
    go_big_quiet_want
    go_big_quiet_op
    refine ⟨.agg #[.int .i64 p, (.slice ga gn gc)], fun w' hw' => ?_, ?_⟩
    · have q := BG.out.on hw'.out.1
      have q0 := q.cell 0
      have q1 := q.cell 1
      simp at q0 q1
      simp [go_sem, q0, q1]
    go_big_quiet_on
    go_big_quiet_want; go_big_quiet_op
    go_big_quiet_call ((intro hw; exact (sgk_is k1 (HG.out _ hw.out.1) HP.out HSG.out).mono fun _ _ ⟨he, hb⟩ => ⟨he, Lib.hid ⟨Below.on hw.out.1 hb, fun v e => hw.out.2 v e |>.below hb⟩⟩))
    go_big_quiet_want; go_big_quiet_op; first | go_big_quiet_on | (refine ⟨_, fun _ _ => rfl, ?_⟩; go_big_quiet_on)
    go_big_quiet_want; go_big_quiet_op; first | go_big_quiet_on | (refine ⟨_, fun _ _ => rfl, ?_⟩; go_big_quiet_on)
    go_big_quiet_want
    go_big_quiet_op
    refine ⟨.agg #[.int .i64 p, (.slice ha hn hk)], fun w' hw' => ?_, ?_⟩
    · have q := BH.out.on hw'.out.1
      have q0 := q.cell 0
      have q1 := q.cell 1
      simp at q0 q1
      simp [go_sem, q0, q1]
    go_big_quiet_on
    go_big_quiet_want; go_big_quiet_op
    go_big_quiet_call ((intro hw; exact (sgk_is k2 (HH.out _ hw.out.1) HQ.out HSH.out).mono fun _ _ ⟨he, hb⟩ => ⟨he, Lib.hid ⟨Below.on hw.out.1 hb, fun v e => hw.out.2 v e |>.below hb⟩⟩))
    go_big_quiet_want; go_big_quiet_op; first | go_big_quiet_on | (refine ⟨_, fun _ _ => rfl, ?_⟩; go_big_quiet_on)
    go_big_quiet_want; go_big_quiet_op; first | go_big_quiet_on | (refine ⟨_, fun _ _ => rfl, ?_⟩; go_big_quiet_on)
    go_big_quiet_want; go_big_quiet_op; first | go_big_quiet_on | (refine ⟨_, fun _ _ => rfl, ?_⟩; go_big_quiet_on)
    go_big_quiet_want; go_big_quiet_op; first | go_big_quiet_on | (refine ⟨_, fun _ _ => rfl, ?_⟩; go_big_quiet_on)
    go_big_quiet_want
    go_big_quiet_op
    refine ⟨.int .i64 p, fun w' hw' => ?_, ?_⟩
    · have q := BG.out.on hw'.out.1
      have q0 := q.cell 0
      simp at q0
      simp [go_sem, q0]
    go_big_quiet_on
    go_big_quiet_want; go_big_quiet_op; first | go_big_quiet_on | (refine ⟨_, fun _ _ => rfl, ?_⟩; go_big_quiet_on)
    go_big_quiet_want
    go_big_quiet_op
    refine ⟨.int .i64 p, fun w' hw' => ?_, ?_⟩
    · have q := BH.out.on hw'.out.1
      have q0 := q.cell 0
      simp at q0
      simp [go_sem, q0]
    go_big_quiet_on
    go_big_quiet_want
    go_big_quiet_op
    refine ⟨.bool false, fun w' hw' => ?_, ?_⟩
    · simp [go_sem]
    go_big_quiet_on
    go_big_quiet_want; go_big_quiet_op; first | go_big_quiet_on | (refine ⟨_, fun _ _ => rfl, ?_⟩; go_big_quiet_on)
    go_big_quiet_want; go_big_quiet_op; first | go_big_quiet_on | (refine ⟨_, fun _ _ => rfl, ?_⟩; go_big_quiet_on)
    go_big_quiet_want; go_big_quiet_op; first | go_big_quiet_on | (refine ⟨_, fun _ _ => rfl, ?_⟩; go_big_quiet_on)
    go_big_quiet_want; go_big_quiet_op; first | go_big_quiet_on | (refine ⟨_, fun _ _ => rfl, ?_⟩; go_big_quiet_on)
    go_big_quiet_want
    go_big_quiet_op
    refine ⟨.int .i64 p, fun w' hw' => ?_, ?_⟩
    · have q := BG.out.on hw'.out.1
      have q0 := q.cell 0
      simp at q0
      simp [go_sem, q0]
    go_big_quiet_on
    go_big_quiet_want; go_big_quiet_op
    go_big_quiet_call ((intro hw; exact (sod_is k3 (HK.out _ hw.out.1)).mono fun _ _ ⟨he, hb⟩ => ⟨he, Lib.hid ⟨Below.on hw.out.1 hb, fun v e => hw.out.2 v e |>.below hb⟩⟩))
    go_big_quiet_want; go_big_quiet_op; first | go_big_quiet_on | (refine ⟨_, fun _ _ => rfl, ?_⟩; go_big_quiet_on)
    go_big_quiet_want; go_big_quiet_op; first | go_big_quiet_on | (refine ⟨_, fun _ _ => rfl, ?_⟩; go_big_quiet_on)
    go_big_quiet_want; go_big_quiet_op; first | go_big_quiet_on | (refine ⟨_, fun _ _ => rfl, ?_⟩; go_big_quiet_on)
    go_big_quiet_want; go_big_quiet_op; first | go_big_quiet_on | (refine ⟨_, fun _ _ => rfl, ?_⟩; go_big_quiet_on)
    go_big_quiet_want; go_big_quiet_op; first | go_big_quiet_on | (refine ⟨_, fun _ _ => rfl, ?_⟩; go_big_quiet_on)
    go_big_quiet_want
    go_big_quiet_op
    refine ⟨.int .i64 p, fun w' hw' => ?_, ?_⟩
    · have q := BG.out.on hw'.out.1
      have q0 := q.cell 0
      simp at q0
      simp [go_sem, q0]
    go_big_quiet_on
    go_big_quiet_want; go_big_quiet_op
    go_big_quiet_call ((intro hw; exact (sod_is k4 (HF.out _ hw.out.1)).mono fun _ _ ⟨he, hb⟩ => ⟨he, Lib.hid ⟨Below.on hw.out.1 hb, fun v e => hw.out.2 v e |>.below hb⟩⟩))
    go_big_quiet_want; go_big_quiet_op; first | go_big_quiet_on | (refine ⟨_, fun _ _ => rfl, ?_⟩; go_big_quiet_on)
    go_big_quiet_want; go_big_quiet_op; first | go_big_quiet_on | (refine ⟨_, fun _ _ => rfl, ?_⟩; go_big_quiet_on)
    go_big_quiet_want; go_big_quiet_op; first | go_big_quiet_on | (refine ⟨_, fun _ _ => rfl, ?_⟩; go_big_quiet_on)
    go_big_quiet_want; go_big_quiet_op; first | go_big_quiet_on | (refine ⟨_, fun _ _ => rfl, ?_⟩; go_big_quiet_on)
    go_big_quiet_want; go_big_quiet_op
    go_big_quiet_call ((intro hw; exact (l1In_tb k5 _).mono fun _ _ ⟨he, hb⟩ => ⟨he, by rw [← hb]; exact hw⟩))
    go_big_quiet_want; go_big_quiet_op; first | go_big_quiet_on | (refine ⟨_, fun _ _ => rfl, ?_⟩; go_big_quiet_on)
    go_big_quiet_want; go_big_quiet_op; first | go_big_quiet_on | (refine ⟨_, fun _ _ => rfl, ?_⟩; go_big_quiet_on)
    go_big_quiet_want; go_big_quiet_op; first | go_big_quiet_on | (refine ⟨_, fun _ _ => rfl, ?_⟩; go_big_quiet_on)
    go_big_quiet_want
    go_big_quiet_op
    refine ⟨.agg #[.int .i64 p, (.slice ga gn gc)], fun w' hw' => ?_, ?_⟩
    · have q := BG.out.on hw'.out.1
      have q0 := q.cell 0
      have q1 := q.cell 1
      simp at q0 q1
      simp [go_sem, q0, q1]
    go_big_quiet_on
    go_big_quiet_want; go_big_quiet_op; first | go_big_quiet_on | (refine ⟨_, fun _ _ => rfl, ?_⟩; go_big_quiet_on)
    go_big_quiet_want
    go_big_quiet_op
    refine ⟨.agg #[.int .i64 p, (.slice ha hn hk)], fun w' hw' => ?_, ?_⟩
    · have q := BH.out.on hw'.out.1
      have q0 := q.cell 0
      have q1 := q.cell 1
      simp at q0 q1
      simp [go_sem, q0, q1]
    go_big_quiet_on
    exact wpQuiet_nil rfl
  refine wpAnyH_call (i := 37) (d := some 50) 44 #[.agg #[.int .i64 p, (.slice ga gn gc)], kv] rfl (by kernel_rfl) rfl rfl (by kernel_rfl) (fun _ => by kernel_rfl) fun wa hc => ?_
  refine (smov_any p (.slice ga gn gc) kv g known wa (HG.out _ hc.out.1) (HK.out _ hc.out.1) HGK.out HKD.out).mono ?_
  rintro e wc ⟨mv, rfl, om, hb⟩
  refine ⟨_, rfl, some mv, Lib.hid ⟨Below.on hc.out.1 hb, fun v e => by cases e; exact Ints.of_own om (by rw [mov_len HKD.out HGK.out]; exact HFG.out)⟩, ?_⟩
  clear hc om hb
  refine wpAnyH_call (i := 39) (d := some 52) 65 #[.agg #[.int .i64 p, mv], .agg #[.int .i64 p, (.slice ha hn hk)]] rfl (by kernel_rfl) rfl rfl (by kernel_rfl) (fun _ => by kernel_rfl) fun wd hc => ?_
  refine (ssg_ld HL.out (hc.out.2 mv rfl) (HH.out _ hc.out.1)).mono ?_
  rintro e we ⟨rfl, hb⟩
  refine ⟨_, rfl, none, Lib.hid ⟨Below.on hc.out.1 hb, fun v e => by cases e⟩, ?_⟩
  clear hc hb
  refine wpAnyH_special (i := 40) (d := some 53) rfl (by kernel_rfl) rfl rfl (by kernel_rfl) fun wa hc => ⟨.bool false, wa, none, .inl (by kernel_rfl), hc, ?_⟩
  clear hc
  refine wpAnyH_special (i := 41) (d := some 54) rfl (by kernel_rfl) rfl rfl (by kernel_rfl) fun wa hc => ⟨.bool false, wa, none, .inl (by kernel_rfl), hc, ?_⟩
  clear hc
  refine ⟨by kernel_rfl, fun w3 hw3 => ?_⟩
  simp only [Act.put, List.setIfInBounds_toArray, List.set_cons_succ, List.set_cons_zero]
  have B3 := Lib.hid hw3.out.1
  clear hw3 HBD
  have cg0 := (BG.out.on B3.out).cell 0
  have cg1 := (BG.out.on B3.out).cell 1
  have ch0 := (BH.out.on B3.out).cell 0
  have ch1 := (BH.out.on B3.out).cell 1
  simp at cg0 cg1 ch0 ch1
  go_wp2_with fail
  refine (smov_any p (.slice ga gn gc) (.slice (some ⟨TL, 0, none⟩) u tc) g further _ (HG.out _ B3.out) (HF.out _ B3.out) HGK.out HFD.out).mono ?_
  rintro e w5 ⟨mv, rfl, om, hb⟩
  obtain ⟨va, vc, hv⟩ := om.form
  obtain ⟨n, hnn⟩ : ∃ n, (mov further g).length = n := ⟨_, rfl⟩
  rw [hnn] at hv
  subst hv
  have B5 := Lib.hid (Below.on B3.out hb)
  have OM := Lib.hid om
  have SZ : Hid (W.heap.size ≤ w3.heap.size ∧ W.heap.size ≤ w5.heap.size) := Lib.hid ⟨B3.out.size, B5.out.size⟩
  clear cg0 cg1 ch0 ch1
  clear hb om hnn
  have O2 := own_made' w5
  have HTC2 := HTC.out _ (FIN.out _ (Below.on B5.out (below_grow w5 (.cells #[] 3))))
  have hu9 : ([] : List Int).length + u < 1000000000 := by simp; omega
  go_wp2_with (at_builtin; refine wpAppInts (xs := []) (ys := further) rfl _ _ rfl rfl O2 HU.out hu9 (by simp) rfl HTC2 ?_)
  intro tv w6 o3 g3
  have O3 := Lib.hid (show Own w6 w5.heap.size tv further from o3)
  have B6 := Lib.hid ((below_grow w5 (.cells #[] 3)).grown g3 (by simp) (fun k hk => (O2.lt k hk).1))
  have BW6 := Lib.hid (Below.on B5.out B6.out)
  have OM6 := Lib.hid (own_below OM.out B6.out)
  obtain ⟨ta, tcc, htv⟩ := Own.form (show Own w6 w5.heap.size tv further from o3)
  rw [HU.out] at htv
  subst htv
  have AP : Hid (∀ k, (Value.slice va n vc).ownBlock = some k → k < w5.heap.size) := Lib.hid fun k h1 => (OM.out.lt k h1).2
  clear o3 g3 O2 HTC2 hu9
  have NN : Hid (w.heap.size + 1 + 1 < w3.heap.size ∧ w.heap.size + 1 + 1 < w5.heap.size ∧ w.heap.size ≤ w3.heap.size ∧ w.heap.size ≤ w5.heap.size ∧ w5.heap.size ≤ w6.heap.size) := Lib.hid (by have := HWS.out; have := SZ.out; have := B6.out.size; omega)
  have BX7 : Hid (Box (w6.alloc (.cells #[.int .i64 p, .slice va n vc, .int .i64 ask, .slice ta u tcc] 60)) w6.heap.size [.int .i64 p, .slice va n vc, .int .i64 ask, .slice ta u tcc]) := Lib.hid (Box.made w6 _ _)
  have G7 := Lib.hid (below_grow w6 (.cells #[.int .i64 p, .slice va n vc, .int .i64 ask, .slice ta u tcc] 60))
  have BW7 := Lib.hid (Below.on BW6.out G7.out)
  have co0 := (BO.out.on BW7.out).cell 0
  have co1 := (BO.out.on BW7.out).cell 1
  have co2 := (BO.out.on BW7.out).cell 2
  have co3 := (BO.out.on BW7.out).cell 3
  simp at co0 co1 co2 co3
  have f0 := (BO.out.on BW7.out).frozen 0
  have f1 := (BO.out.on BW7.out).frozen 1
  have f2 := (BO.out.on BW7.out).frozen 2
  have f3 := (BO.out.on BW7.out).frozen 3
  have FF := Lib.hid (FIN.out _ BW7.out)
  have OM7 := Lib.hid (own_below OM6.out G7.out)
  have O7 := Lib.hid (own_below O3.out G7.out)
  go_wp2
  refine bodyPost_ret (v := .tuple #[.agg #[.int .i64 p, .slice va n vc, .int .i64 ask, .slice ta u tcc], .bool true]) ?_ rfl ?_
  · simp [results, Try.results42, go_sem, co0, co1, co2, co3]
  · unfold OfPost
    rw [HX.out.1, HX.out.2]
    exact ⟨_, _, rfl, own_set4 OM7.out NN.out.1 NN.out.2.2.1, own_set4 O7.out NN.out.2.1 NN.out.2.2.2.1, fun k h1 h2 => (by have := AP.out k h1; have := (O3.out.lt k h2).1; omega), below_set4 FF.out (by omega)⟩

set_option maxRecDepth 20000 in
set_option maxHeartbeats 1600000 in
theorem stof_1 (p q ask : Int) (ga ha : Option Addr) (gn gc hn hk : Nat) (kv fv : Value) (g h known further : List Int) (w : World) (hg : Ints w (.slice ga gn gc) g) (hh : Ints w (.slice ha hn hk) h) (hkn : Ints w kv known) (hf : Ints w fv further) (hp : intIn p) (hq : intIn q) (hs : ∀ j, j < g.length → intIn (nth g j)) (hs' : ∀ j, j < h.length → intIn (nth h j)) (hb : ofT p g q h known further ask = true) (hask : (ask == 1) = true) :
    Calls Try.prog 42 #[.agg #[.int .i64 p, (.slice ga gn gc)], .agg #[.int .i64 q, (.slice ha hn hk)], kv, fv, .int .i64 ask] w (OfPost p g q h known further ask w) := by
  have hm := ofT_true.1 hb
  obtain rfl := hm.e
  have k1 := gkB_true.2 hm.gg
  have k2 := gkB_true.2 hm.gh
  have k3 := odB_true.2 hm.ok
  have k4 := odB_true.2 hm.of
  have k5 : (decide (0 ≤ ask) && decide (ask ≤ 1)) = true := by rw [decide_eq_true hm.a0, decide_eq_true hm.a1]; rfl
  obtain ⟨ta0, tc, etv, kk⟩ := hf.opened
  obtain ⟨u, hu⟩ : ∃ u, further.length = u := ⟨_, rfl⟩
  have hu5 : 1 ≤ u ∧ u ≤ 5 := by have := hm.of.len; have := hm.gg.p1; have := hm.gg.p5; omega
  rw [hu] at etv
  obtain ⟨TL, etl, _, _⟩ := kk.get 0 (by omega)
  subst etl
  have HTC := Lib.hid (show ∀ w', Below w.heap.size w w' → ∀ j, j < u → w'.cell? ⟨TL, j, none⟩ = some (.int .i64 (nth further j)) from fun w' hb j hj => by
    obtain ⟨M, e1, hl, e2⟩ := kk.get j (by omega)
    cases e1
    exact (hb.cell (p := ⟨TL, j, none⟩) hl).trans e2)
  subst etv
  have HU := Lib.hid hu
  have HX : Hid (ofT p g p h known further ask = true ∧ toldT known further ask = thL (bkL known) further) := Lib.hid ⟨hb, by
    have ha : ask = 1 := by simpa using hask
    unfold toldT
    rw [if_pos ha]
    have kl : known.length = further.length := by have := hm.ok.len; have := hm.of.len; omega
    have e1 : odB known known.length = true := by rw [odB_true, hm.ok.len]; exact hm.ok
    rw [bkL_yes e1, thL_yes (thB_true.2 ⟨by rw [bck_len, hm.ok.len]; exact bck_od hm.ok, by rw [bck_len, hm.ok.len]; exact hm.of⟩)]⟩
  have HGK := Lib.hid hm.gg
  have HKD := Lib.hid hm.ok
  have HFD := Lib.hid hm.of
  have HL := Lib.hid (leads_true.2 hm.lead)
  have HF2 : Hid ((bkL known).length ≤ maxLen) := Lib.hid (by
    unfold bkL; split
    · rw [bck_len]; exact few_of hkn
    · simp)
  have HB3 := boxes3w (w := w) [.int .i64 p, (.slice ga gn gc)] [.int .i64 p, (.slice ha hn hk)] [.int .i64 0, .slice none 0 0, .int .i64 0, .slice none 0 0] 30 30 60
  obtain ⟨W, hWe, hWs, hW, b0, b1, b2⟩ := HB3.out
  have B0 : Hid (Below W.heap.size W (((w.alloc (.cells #[.int .i64 p, (.slice ga gn gc)] 30)).alloc (.cells #[.int .i64 p, (.slice ha hn hk)] 30)).alloc (.cells #[.int .i64 0, .slice none 0 0, .int .i64 0, .slice none 0 0] 60))) := Lib.hid (by rw [hWe]; exact Below.refl _ _)
  have HBD0 : Hid (Below W.heap.size W (((w.alloc (.cells #[.int .i64 p, (.slice ga gn gc)] 30)).alloc (.cells #[.int .i64 p, (.slice ha hn hk)] 30)).alloc (.cells #[.int .i64 0, .slice none 0 0, .int .i64 0, .slice none 0 0] 60)).drew) := Lib.hid (by rw [hWe]; exact (Below.refl _ _).drew)
  have HW := Lib.hid hW
  have HWS := Lib.hid hWs
  have BG := Lib.hid b0
  have BH := Lib.hid b1
  have BO := Lib.hid b2
  have HG := Lib.hid (show ∀ w', Below W.heap.size W w' → Ints w' (.slice ga gn gc) g from fun w' hb => (hg.below hW).below hb)
  have HH := Lib.hid (show ∀ w', Below W.heap.size W w' → Ints w' (.slice ha hn hk) h from fun w' hb => (hh.below hW).below hb)
  have HK := Lib.hid (show ∀ w', Below W.heap.size W w' → Ints w' kv known from fun w' hb => (hkn.below hW).below hb)
  have HF := Lib.hid (show ∀ w', Below W.heap.size W w' → Ints w' (.slice (some ⟨TL, 0, none⟩) u tc) further from fun w' hb => (hf.below hW).below hb)
  have HFG := Lib.hid (few_of hg)
  have HSG := Lib.hid hs
  have HSH := Lib.hid hs'
  have HP := Lib.hid hp
  have HQ := Lib.hid hq
  have FIN : Hid (∀ w', Below W.heap.size W w' → Below w.heap.size w w') := Lib.hid fun w' hb => hW.trans (hb.mono hW.size)
  clear hm hb kk hu
  clear HB3 hWe hWs hW b0 b1 b2 hg hh hkn hf hs hs' hp hq
  have HBD : Hid (My W (mov known g) none (((w.alloc (.cells #[.int .i64 p, (.slice ga gn gc)] 30)).alloc (.cells #[.int .i64 p, (.slice ha hn hk)] 30)).alloc (.cells #[.int .i64 0, .slice none 0 0, .int .i64 0, .slice none 0 0] 60)).drew) := Lib.hid ⟨HBD0.out, fun v e => by cases e⟩
  clear HBD0
  go_enter Try.func42, Try.ntmps42
  go_wp2_with fail
  apply wp_region_H (Z := Option Value) (S := fun k => k == 37 || k == 39 || k == 40 || k == 41) (C := fun z w' => Hid (My W (mov known g) z w')) [0, 1, 2, 3, 4, 5, 6, 7, 8, 9, 10, 11, 12, 13, 14, 15, 16, 17, 18, 19, 20, 21, 22, 23, 24, 25, 26, 27, 28, 29, 30, 31, 32, 33, 34, 35, 36, 38] none
  · kernel_rfl
  · kernel_rfl
  · kernel_rfl
  · exact ⟨rfl, rfl, rfl, rfl, rfl, rfl, rfl, rfl, rfl, rfl, rfl, rfl, rfl, rfl, rfl, rfl, rfl, rfl, rfl, rfl, rfl, rfl, rfl, rfl, rfl, rfl, rfl, rfl, rfl, rfl, rfl, rfl, rfl, rfl, rfl, rfl, rfl, rfl, trivial⟩
  · rfl
  · decide
  · exact HBD
  · intro zz
    dsimp only [pickL, nthO]
    go_big_quiet_want
    go_big_quiet_op
    refine ⟨.agg #[.int .i64 p, (.slice ga gn gc)], fun w' hw' => ?_, ?_⟩
    · have q := BG.out.on hw'.out.1
      have q0 := q.cell 0
      have q1 := q.cell 1
      simp at q0 q1
      simp [go_sem, q0, q1]
    go_big_quiet_on
    go_big_quiet_want; go_big_quiet_op
    go_big_quiet_call ((intro hw; exact (sgk_is k1 (HG.out _ hw.out.1) HP.out HSG.out).mono fun _ _ ⟨he, hb⟩ => ⟨he, Lib.hid ⟨Below.on hw.out.1 hb, fun v e => hw.out.2 v e |>.below hb⟩⟩))
    go_big_quiet_want; go_big_quiet_op; first | go_big_quiet_on | (refine ⟨_, fun _ _ => rfl, ?_⟩; go_big_quiet_on)
    go_big_quiet_want; go_big_quiet_op; first | go_big_quiet_on | (refine ⟨_, fun _ _ => rfl, ?_⟩; go_big_quiet_on)
    go_big_quiet_want
    go_big_quiet_op
    refine ⟨.agg #[.int .i64 p, (.slice ha hn hk)], fun w' hw' => ?_, ?_⟩
    · have q := BH.out.on hw'.out.1
      have q0 := q.cell 0
      have q1 := q.cell 1
      simp at q0 q1
      simp [go_sem, q0, q1]
    go_big_quiet_on
    go_big_quiet_want; go_big_quiet_op
    go_big_quiet_call ((intro hw; exact (sgk_is k2 (HH.out _ hw.out.1) HQ.out HSH.out).mono fun _ _ ⟨he, hb⟩ => ⟨he, Lib.hid ⟨Below.on hw.out.1 hb, fun v e => hw.out.2 v e |>.below hb⟩⟩))
    go_big_quiet_want; go_big_quiet_op; first | go_big_quiet_on | (refine ⟨_, fun _ _ => rfl, ?_⟩; go_big_quiet_on)
    go_big_quiet_want; go_big_quiet_op; first | go_big_quiet_on | (refine ⟨_, fun _ _ => rfl, ?_⟩; go_big_quiet_on)
    go_big_quiet_want; go_big_quiet_op; first | go_big_quiet_on | (refine ⟨_, fun _ _ => rfl, ?_⟩; go_big_quiet_on)
    go_big_quiet_want; go_big_quiet_op; first | go_big_quiet_on | (refine ⟨_, fun _ _ => rfl, ?_⟩; go_big_quiet_on)
    go_big_quiet_want
    go_big_quiet_op
    refine ⟨.int .i64 p, fun w' hw' => ?_, ?_⟩
    · have q := BG.out.on hw'.out.1
      have q0 := q.cell 0
      simp at q0
      simp [go_sem, q0]
    go_big_quiet_on
    go_big_quiet_want; go_big_quiet_op; first | go_big_quiet_on | (refine ⟨_, fun _ _ => rfl, ?_⟩; go_big_quiet_on)
    go_big_quiet_want
    go_big_quiet_op
    refine ⟨.int .i64 p, fun w' hw' => ?_, ?_⟩
    · have q := BH.out.on hw'.out.1
      have q0 := q.cell 0
      simp at q0
      simp [go_sem, q0]
    go_big_quiet_on
    go_big_quiet_want
    go_big_quiet_op
    refine ⟨.bool false, fun w' hw' => ?_, ?_⟩
    · simp [go_sem]
    go_big_quiet_on
    go_big_quiet_want; go_big_quiet_op; first | go_big_quiet_on | (refine ⟨_, fun _ _ => rfl, ?_⟩; go_big_quiet_on)
    go_big_quiet_want; go_big_quiet_op; first | go_big_quiet_on | (refine ⟨_, fun _ _ => rfl, ?_⟩; go_big_quiet_on)
    go_big_quiet_want; go_big_quiet_op; first | go_big_quiet_on | (refine ⟨_, fun _ _ => rfl, ?_⟩; go_big_quiet_on)
    go_big_quiet_want; go_big_quiet_op; first | go_big_quiet_on | (refine ⟨_, fun _ _ => rfl, ?_⟩; go_big_quiet_on)
    go_big_quiet_want
    go_big_quiet_op
    refine ⟨.int .i64 p, fun w' hw' => ?_, ?_⟩
    · have q := BG.out.on hw'.out.1
      have q0 := q.cell 0
      simp at q0
      simp [go_sem, q0]
    go_big_quiet_on
    go_big_quiet_want; go_big_quiet_op
    go_big_quiet_call ((intro hw; exact (sod_is k3 (HK.out _ hw.out.1)).mono fun _ _ ⟨he, hb⟩ => ⟨he, Lib.hid ⟨Below.on hw.out.1 hb, fun v e => hw.out.2 v e |>.below hb⟩⟩))
    go_big_quiet_want; go_big_quiet_op; first | go_big_quiet_on | (refine ⟨_, fun _ _ => rfl, ?_⟩; go_big_quiet_on)
    go_big_quiet_want; go_big_quiet_op; first | go_big_quiet_on | (refine ⟨_, fun _ _ => rfl, ?_⟩; go_big_quiet_on)
    go_big_quiet_want; go_big_quiet_op; first | go_big_quiet_on | (refine ⟨_, fun _ _ => rfl, ?_⟩; go_big_quiet_on)
    go_big_quiet_want; go_big_quiet_op; first | go_big_quiet_on | (refine ⟨_, fun _ _ => rfl, ?_⟩; go_big_quiet_on)
    go_big_quiet_want; go_big_quiet_op; first | go_big_quiet_on | (refine ⟨_, fun _ _ => rfl, ?_⟩; go_big_quiet_on)
    go_big_quiet_want
    go_big_quiet_op
    refine ⟨.int .i64 p, fun w' hw' => ?_, ?_⟩
    · have q := BG.out.on hw'.out.1
      have q0 := q.cell 0
      simp at q0
      simp [go_sem, q0]
    go_big_quiet_on
    go_big_quiet_want; go_big_quiet_op
    go_big_quiet_call ((intro hw; exact (sod_is k4 (HF.out _ hw.out.1)).mono fun _ _ ⟨he, hb⟩ => ⟨he, Lib.hid ⟨Below.on hw.out.1 hb, fun v e => hw.out.2 v e |>.below hb⟩⟩))
    go_big_quiet_want; go_big_quiet_op; first | go_big_quiet_on | (refine ⟨_, fun _ _ => rfl, ?_⟩; go_big_quiet_on)
    go_big_quiet_want; go_big_quiet_op; first | go_big_quiet_on | (refine ⟨_, fun _ _ => rfl, ?_⟩; go_big_quiet_on)
    go_big_quiet_want; go_big_quiet_op; first | go_big_quiet_on | (refine ⟨_, fun _ _ => rfl, ?_⟩; go_big_quiet_on)
    go_big_quiet_want; go_big_quiet_op; first | go_big_quiet_on | (refine ⟨_, fun _ _ => rfl, ?_⟩; go_big_quiet_on)
    go_big_quiet_want; go_big_quiet_op
    go_big_quiet_call ((intro hw; exact (l1In_tb k5 _).mono fun _ _ ⟨he, hb⟩ => ⟨he, by rw [← hb]; exact hw⟩))
    go_big_quiet_want; go_big_quiet_op; first | go_big_quiet_on | (refine ⟨_, fun _ _ => rfl, ?_⟩; go_big_quiet_on)
    go_big_quiet_want; go_big_quiet_op; first | go_big_quiet_on | (refine ⟨_, fun _ _ => rfl, ?_⟩; go_big_quiet_on)
    go_big_quiet_want; go_big_quiet_op; first | go_big_quiet_on | (refine ⟨_, fun _ _ => rfl, ?_⟩; go_big_quiet_on)
    go_big_quiet_want
    go_big_quiet_op
    refine ⟨.agg #[.int .i64 p, (.slice ga gn gc)], fun w' hw' => ?_, ?_⟩
    · have q := BG.out.on hw'.out.1
      have q0 := q.cell 0
      have q1 := q.cell 1
      simp at q0 q1
      simp [go_sem, q0, q1]
    go_big_quiet_on
    go_big_quiet_want; go_big_quiet_op; first | go_big_quiet_on | (refine ⟨_, fun _ _ => rfl, ?_⟩; go_big_quiet_on)
    go_big_quiet_want
    go_big_quiet_op
    refine ⟨.agg #[.int .i64 p, (.slice ha hn hk)], fun w' hw' => ?_, ?_⟩
    · have q := BH.out.on hw'.out.1
      have q0 := q.cell 0
      have q1 := q.cell 1
      simp at q0 q1
      simp [go_sem, q0, q1]
    go_big_quiet_on
    exact wpQuiet_nil rfl
  refine wpAnyH_call (i := 37) (d := some 50) 44 #[.agg #[.int .i64 p, (.slice ga gn gc)], kv] rfl (by kernel_rfl) rfl rfl (by kernel_rfl) (fun _ => by kernel_rfl) fun wa hc => ?_
  refine (smov_any p (.slice ga gn gc) kv g known wa (HG.out _ hc.out.1) (HK.out _ hc.out.1) HGK.out HKD.out).mono ?_
  rintro e wc ⟨mv, rfl, om, hb⟩
  refine ⟨_, rfl, some mv, Lib.hid ⟨Below.on hc.out.1 hb, fun v e => by cases e; exact Ints.of_own om (by rw [mov_len HKD.out HGK.out]; exact HFG.out)⟩, ?_⟩
  clear hc om hb
  refine wpAnyH_call (i := 39) (d := some 52) 65 #[.agg #[.int .i64 p, mv], .agg #[.int .i64 p, (.slice ha hn hk)]] rfl (by kernel_rfl) rfl rfl (by kernel_rfl) (fun _ => by kernel_rfl) fun wd hc => ?_
  refine (ssg_ld HL.out (hc.out.2 mv rfl) (HH.out _ hc.out.1)).mono ?_
  rintro e we ⟨rfl, hb⟩
  refine ⟨_, rfl, none, Lib.hid ⟨Below.on hc.out.1 hb, fun v e => by cases e⟩, ?_⟩
  clear hc hb
  refine wpAnyH_special (i := 40) (d := some 53) rfl (by kernel_rfl) rfl rfl (by kernel_rfl) fun wa hc => ⟨.bool false, wa, none, .inl (by kernel_rfl), hc, ?_⟩
  clear hc
  refine wpAnyH_special (i := 41) (d := some 54) rfl (by kernel_rfl) rfl rfl (by kernel_rfl) fun wa hc => ⟨.bool false, wa, none, .inl (by kernel_rfl), hc, ?_⟩
  clear hc
  refine ⟨by kernel_rfl, fun w3 hw3 => ?_⟩
  simp only [Act.put, List.setIfInBounds_toArray, List.set_cons_succ, List.set_cons_zero]
  have B3 := Lib.hid hw3.out.1
  clear hw3 HBD
  have cg0 := (BG.out.on B3.out).cell 0
  have cg1 := (BG.out.on B3.out).cell 1
  have ch0 := (BH.out.on B3.out).cell 0
  have ch1 := (BH.out.on B3.out).cell 1
  simp at cg0 cg1 ch0 ch1
  go_wp2_with fail
  refine (smov_any p (.slice ga gn gc) (.slice (some ⟨TL, 0, none⟩) u tc) g further _ (HG.out _ B3.out) (HF.out _ B3.out) HGK.out HFD.out).mono ?_
  rintro e w5 ⟨mv, rfl, om, hb⟩
  obtain ⟨va, vc, hv⟩ := om.form
  obtain ⟨n, hnn⟩ : ∃ n, (mov further g).length = n := ⟨_, rfl⟩
  rw [hnn] at hv
  subst hv
  have B5 := Lib.hid (Below.on B3.out hb)
  have OM := Lib.hid om
  have SZ : Hid (W.heap.size ≤ w3.heap.size ∧ W.heap.size ≤ w5.heap.size) := Lib.hid ⟨B3.out.size, B5.out.size⟩
  clear cg0 cg1 ch0 ch1
  clear hb om hnn
  have O2 := own_made' w5
  have HTC2 := HTC.out _ (FIN.out _ (Below.on B5.out (below_grow w5 (.cells #[] 3))))
  have hu9 : ([] : List Int).length + u < 1000000000 := by simp; omega
  go_wp2_with (at_builtin; refine wpAppInts (xs := []) (ys := further) rfl _ _ rfl rfl O2 HU.out hu9 (by simp) rfl HTC2 ?_)
  intro tv w6 o3 g3
  have O3 := Lib.hid (show Own w6 w5.heap.size tv further from o3)
  have B6 := Lib.hid ((below_grow w5 (.cells #[] 3)).grown g3 (by simp) (fun k hk => (O2.lt k hk).1))
  have BW6 := Lib.hid (Below.on B5.out B6.out)
  have OM6 := Lib.hid (own_below OM.out B6.out)
  obtain ⟨ta, tcc, htv⟩ := Own.form (show Own w6 w5.heap.size tv further from o3)
  rw [HU.out] at htv
  subst htv
  have AP : Hid (∀ k, (Value.slice va n vc).ownBlock = some k → k < w5.heap.size) := Lib.hid fun k h1 => (OM.out.lt k h1).2
  clear o3 g3 O2 HTC2 hu9
  have NN : Hid (w.heap.size + 1 + 1 < w3.heap.size ∧ w.heap.size + 1 + 1 < w5.heap.size ∧ w.heap.size ≤ w3.heap.size ∧ w.heap.size ≤ w5.heap.size ∧ w5.heap.size ≤ w6.heap.size) := Lib.hid (by have := HWS.out; have := SZ.out; have := B6.out.size; omega)
  have BX7 : Hid (Box (w6.alloc (.cells #[.int .i64 p, .slice va n vc, .int .i64 ask, .slice ta u tcc] 60)) w6.heap.size [.int .i64 p, .slice va n vc, .int .i64 ask, .slice ta u tcc]) := Lib.hid (Box.made w6 _ _)
  have G7 := Lib.hid (below_grow w6 (.cells #[.int .i64 p, .slice va n vc, .int .i64 ask, .slice ta u tcc] 60))
  have BW7 := Lib.hid (Below.on BW6.out G7.out)
  go_wp2_with fail
  refine (sbck_any kv known _ (HK.out _ BW7.out)).mono ?_
  rintro e w8 ⟨bv, rfl, ob, hb⟩
  have B8 := Lib.hid (Below.on BW7.out hb)
  have BX8 := Lib.hid (BX7.out.on hb)
  have OM8 := Lib.hid (own_below (own_below OM6.out G7.out) hb)
  have IB := Lib.hid (Ints.of_own ob HF2.out)
  clear hb ob
  go_wp2_with fail
  refine (sthn_any bv (.slice (some ⟨TL, 0, none⟩) u tc) (bkL known) further _ IB.out (HF.out _ B8.out)).mono ?_
  rintro e w9 ⟨nv, rfl, on, hb⟩
  obtain ⟨na, nc, hv⟩ := on.form
  obtain ⟨m, hmm⟩ : ∃ n, (thL (bkL known) further).length = n := ⟨_, rfl⟩
  rw [hmm] at hv
  subst hv
  have B9 := Lib.hid (Below.on B8.out hb)
  have X9 := BX8.out.on hb
  have x0 := X9.cell 0
  have x1 := X9.cell 1
  have x2 := X9.cell 2
  have x3 := X9.cell 3
  have y0 := X9.frozen 3
  simp at x0 x1 x2 x3
  have OM9 := Lib.hid (own_below OM8.out hb)
  have ON := Lib.hid on
  have N9 : Hid (w6.heap.size < w8.heap.size ∧ w6.heap.size < w9.heap.size) := Lib.hid ⟨BX8.out.lt, X9.lt⟩
  have BOX9 : Hid (Box (w9.setCell ⟨w6.heap.size, 3, none⟩ (.slice na m nc)) (w.heap.size + 1 + 1) [.int .i64 0, .slice none 0 0, .int .i64 0, .slice none 0 0]) := Lib.hid ((BO.out.on B9.out).far (by have := NN.out; omega) _)
  have z0 := BOX9.out.cell 0
  have z1 := BOX9.out.cell 1
  have z2 := BOX9.out.cell 2
  have z3 := BOX9.out.cell 3
  have f0 := BOX9.out.frozen 0
  have f1 := BOX9.out.frozen 1
  have f2 := BOX9.out.frozen 2
  have f3 := BOX9.out.frozen 3
  simp at z0 z1 z2 z3
  have XX := X9.set 3 (.slice na m nc)
  have x0' := XX.cell 0
  have x1' := XX.cell 1
  have x2' := XX.cell 2
  have x3' := XX.cell 3
  simp at x0' x1' x2' x3'
  have FF : Hid (Below w.heap.size w (w9.setCell ⟨w6.heap.size, 3, none⟩ (.slice na m nc))) := Lib.hid ((FIN.out _ B9.out).setCell (by have := NN.out; show w.heap.size ≤ w6.heap.size; omega) _)
  clear hb on hmm X9 XX
  go_wp2
  refine bodyPost_ret (v := .tuple #[.agg #[.int .i64 p, .slice va n vc, .int .i64 ask, .slice na m nc], .bool true]) ?_ rfl ?_
  · simp [results, Try.results42, go_sem, z0, z1, z2, z3]
  · unfold OfPost
    rw [HX.out.1, HX.out.2]
    have os : ∀ (B : Nat) (v : Value) (xs : List Int), Own w9 B v xs → (∀ k, v.ownBlock = some k → k ≠ w6.heap.size) → Own (w9.setCell ⟨w6.heap.size, 3, none⟩ (.slice na m nc)) B v xs := fun B v xs h hn => own_heap h fun b hb => Below.heap_setCell _ _ _ _ (hn b hb)
    exact ⟨_, _, rfl, own_set4 (os _ _ _ OM9.out fun k hk => (by have := AP.out k hk; have := NN.out; omega)) NN.out.1 NN.out.2.2.1,
      own_set4 (os _ _ _ ON.out fun k hk => (by have := (ON.out.lt k hk).1; have := N9.out; omega)) (by have := NN.out; have := N9.out; omega) (by have := NN.out; have := N9.out; omega),
      fun k h1 h2 => (by have := AP.out k h1; have := (ON.out.lt k h2).1; have := NN.out; have := N9.out; omega), below_set4 FF.out (by omega)⟩

theorem stof_any (p q ask : Int) (gv hv kv fv : Value) (g h known further : List Int) (w : World) (hg : Ints w gv g) (hh : Ints w hv h) (hkn : Ints w kv known) (hf : Ints w fv further) (hp : intIn p) (hq : intIn q) (hs : ∀ j, j < g.length → intIn (nth g j)) (hs' : ∀ j, j < h.length → intIn (nth h j)) :
    Calls Try.prog 42 #[.agg #[.int .i64 p, gv], .agg #[.int .i64 q, hv], kv, fv, .int .i64 ask] w (OfPost p g q h known further ask w) := by
  obtain ⟨_, _, rfl, _⟩ := hg.opened
  obtain ⟨_, _, rfl, _⟩ := hh.opened
  cases hb : ofT p g q h known further ask
  · exact stof_no p q ask _ _ _ _ _ _ kv fv g h known further w hg hh hkn hf hp hq hs hs' hb
  · cases ha : (ask == 1)
    · exact stof_0 p q ask _ _ _ _ _ _ kv fv g h known further w hg hh hkn hf hp hq hs hs' hb ha
    · exact stof_1 p q ask _ _ _ _ _ _ kv fv g h known further w hg hh hkn hf hp hq hs hs' hb ha
end Go.Proofs.Ytlcegpmhlnilfaa
