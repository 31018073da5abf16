/- spec: OrderOk, GraphOk. -/
import Derived.Test.YtlcegpmhlnilfabDoorBGr
namespace Go.Proofs.YtlcegpmhlnilfabDoor
open Go.RowKit

/-- What fits in an int. -/
def intIn (x : Int) : Prop := -9223372036854775808 ≤ x ∧ x ≤ 9223372036854775807
theorem w64_in {n : Int} (h0 : -9223372036854775808 ≤ n) (h1 : n ≤ 9223372036854775807) : wrap64 n = n := by unfold wrap64; omega
theorem below_drew' {w w' : World} {B : Nat} (h : Below B w w') : Below B w w'.drew := h.drew

/-- What the first k rounds of OrderOk have shown. -/
structure OdTo (o : List Int) (n k : Nat) : Prop where
  bd : ∀ j, j < k → 0 ≤ nth o j ∧ nth o j ≤ (n : Int) - 1
  inj : ∀ i j, i < j → j < k → nth o i ≠ nth o j

set_option maxHeartbeats 3200000 in
theorem sod_any (v : Value) (o : List Int) (m : Int) (w : World) (h : Ints w v o) : Calls Tryd.prog 141 #[v, .int .i64 m] w fun e w' => e = .returned (.bool (odB o m)) ∧ Below w.heap.size w w' := by
  obtain ⟨a, c, rfl, k1⟩ := h.opened
  have hm1 := k1.max
  have HC := Lib.hid (show ∀ k, k < o.length → ∃ G, a = some ⟨G, 0, none⟩ ∧ ∀ w', Below w.heap.size w w' → w'.cell? ⟨G, k, none⟩ = some (.int .i64 (nth o k)) from fun k hk => by
    obtain ⟨G, e1, hl, e2⟩ := k1.get k hk
    exact ⟨G, e1, fun w' hb => (hb.cell (p := ⟨G, k, none⟩) hl).trans e2⟩)
  obtain ⟨n, hn⟩ : ∃ n, o.length = n := ⟨_, rfl⟩
  have HN := Lib.hid (show ∀ p : Prop, (Od o m → p) → ¬ p → odB o m = false from fun p h1 h2 => odB_false fun hc => h2 (h1 hc))
  have HY := Lib.hid (show (n : Int) = m → 1 ≤ m → m ≤ 5 → OdTo o n n → odB o m = true from by
    subst hn
    intro h1 h2 h3 h4
    exact odB_true.2 ⟨h1, h2, h3, fun j hj => by have := h4.bd j hj; omega, fun i j hij hj => h4.inj i j hij hj⟩)
  have H1 := Lib.hid (show Od o m → (n : Int) = m from fun h => by rw [← hn]; exact h.len)
  have H2 := Lib.hid (show Od o m → 1 ≤ m ∧ m ≤ 5 from fun h => ⟨h.m1, h.m5⟩)
  have H3 := Lib.hid (show Od o m → ∀ k, k < n → 0 ≤ nth o k ∧ nth o k ≤ (n : Int) - 1 from fun h k hk => by have := h.bd k (by omega); have := h.len; omega)
  have H4 := Lib.hid (show Od o m → ∀ i j, i < j → j < n → nth o i ≠ nth o j from fun h i j hij hj => h.inj i j hij (by omega))
  rw [hn] at hm1 HC ⊢
  unfold maxLen at hm1
  clear h k1 hn
  go_enter Tryd.func141, Tryd.ntmps141
  go_wp2
  go_loopw [5] (fun i wr => ∃ k : Nat, k ≤ n ∧ i = .int .i64 k ∧ Hid (OdTo o n k) ∧ Hid (Below w.heap.size w wr)) (fun i _ => n - (intOf i).toNat)
  case atStart => exact ⟨0, by omega, rfl, Lib.hid ⟨fun j hj => by omega, fun i j _ hj => by omega⟩, Lib.hid (Below.refl _ _)⟩
  case round =>
    obtain ⟨k, hk, rfl, hO, hB⟩ := hrel
    obtain ⟨wo, rfl⟩ : ∃ wo : World, wo = wr := ⟨_, rfl⟩
    by_cases hlt : k < n
    · obtain ⟨G, rfl, hck⟩ := HC.out k hlt
      obtain ⟨x, hx⟩ : ∃ x, nth o k = x := ⟨_, rfl⟩
      have HXK := Lib.hid hx
      rw [hx] at hck
      have HCK := Lib.hid hck
      have c1 := hck _ hB.out
      have hlt1 : (k : Int) < (n : Int) := by omega
      clear hx hck
      by_cases hin : 0 ≤ x ∧ x ≤ (n : Int) - 1
      case neg =>
        have HX := Lib.hid (HN.out _ H3.out (fun h => hin (by rw [← HXK.out]; exact h k hlt)))
        have hd : (decide (0 ≤ x) && decide (x ≤ (n : Int) - 1)) = false := by simp; omega
        clear hin
        go_wp2_with fail
        refine (l1In_tb hd _).mono ?_
        rintro e w2 ⟨rfl, rfl⟩
        clear hd c1
        go_wp2
        go_ret
        exact ⟨by rw [HX.out]; rfl, hB.out⟩
      have hd : (decide (0 ≤ x) && decide (x ≤ (n : Int) - 1)) = true := by simp; omega
      go_wp2_with fail
      refine (l1In_tb hd _).mono ?_
      rintro e w2 ⟨rfl, rfl⟩
      have HIN := Lib.hid hin
      clear hd c1 hin
      go_wp2
      go_loopw [6] (fun i wi => ∃ j : Nat, j ≤ k ∧ i = .int .i64 j ∧ Hid (∀ i, i < j → nth o i ≠ x) ∧ Hid (Below w.heap.size w wi)) (fun i _ => k - (intOf i).toNat)
      case atStart => exact ⟨0, by omega, rfl, Lib.hid (fun i hi => by omega), hB⟩
      case round =>
        obtain ⟨j, hjl, rfl, hjj, hI⟩ := hrel
        obtain ⟨wi, rfl⟩ : ∃ wi : World, wi = wr := ⟨_, rfl⟩
        by_cases hlj : j < k
        · obtain ⟨G', eG, hcj⟩ := HC.out j (by omega)
          obtain rfl : G = G' := by cases eG; rfl
          obtain ⟨y, hy⟩ : ∃ y, nth o j = y := ⟨_, rfl⟩
          have HYJ := Lib.hid hy
          rw [hy] at hcj
          have HCJ := Lib.hid hcj
          have hjn : (j : Int) < (n : Int) := by omega
          have hjk : (j : Int) < (k : Int) := by omega
          have HD : Hid (Below w.heap.size w wi.drew) := Lib.hid hI.out.drew
          clear hy hcj eG
          by_cases hxy : y = x
          · have hd : (y == x) = true := by simp [hxy]
            have HX := Lib.hid (HN.out _ H4.out (fun h => h j k hlj hlt (by rw [HYJ.out, HXK.out, hxy])))
            clear hxy
            go_wp2_with fail
            refine wp_region_cls (C := fun w' => Hid (Below w.heap.size w w')) (by kernel_rfl) (by kernel_rfl) HD ?_
            repeat (first | go_big_quiet_skip | (go_big_quiet_want; go_big_quiet_op; first | go_big_quiet_on | (refine ⟨_, fun _ _ => rfl, ?_⟩; go_big_quiet_on)))
            go_big_quiet_want
            go_big_quiet_op
            refine ⟨.int .i64 y, fun w' hw' => ?_, ?_⟩
            · have q := HCJ.out w' hw'.out
              try simp at q
              simp [go_sem, q]
            go_big_quiet_on
            repeat (first | go_big_quiet_skip | (go_big_quiet_want; go_big_quiet_op; first | go_big_quiet_on | (refine ⟨_, fun _ _ => rfl, ?_⟩; go_big_quiet_on)))
            go_big_quiet_want
            go_big_quiet_op
            refine ⟨.int .i64 x, fun w' hw' => ?_, ?_⟩
            · have q := HCK.out w' hw'.out
              try simp at q
              simp [go_sem, q]
            go_big_quiet_on
            repeat (first | go_big_quiet_skip | (go_big_quiet_want; go_big_quiet_op; first | go_big_quiet_on | (refine ⟨_, fun _ _ => rfl, ?_⟩; go_big_quiet_on)))
            refine wpQuiet_nil ?_
            intro w3 hw3
            clear hd HD
            go_wp2
            go_ret
            exact ⟨by rw [HX.out]; rfl, hw3.out⟩
          · have hd : (y == x) = false := by simp [hxy]
            have HJ : Hid (∀ i, i < j + 1 → nth o i ≠ x) := Lib.hid (fun i hi => by
              by_cases e : i < j
              · exact hjj.out i e
              · obtain rfl : i = j := by omega
                rw [HYJ.out]; exact hxy)
            clear hxy
            go_wp2_with fail
            refine wp_region_cls (C := fun w' => Hid (Below w.heap.size w w')) (by kernel_rfl) (by kernel_rfl) HD ?_
            repeat (first | go_big_quiet_skip | (go_big_quiet_want; go_big_quiet_op; first | go_big_quiet_on | (refine ⟨_, fun _ _ => rfl, ?_⟩; go_big_quiet_on)))
            go_big_quiet_want
            go_big_quiet_op
            refine ⟨.int .i64 y, fun w' hw' => ?_, ?_⟩
            · have q := HCJ.out w' hw'.out
              try simp at q
              simp [go_sem, q]
            go_big_quiet_on
            repeat (first | go_big_quiet_skip | (go_big_quiet_want; go_big_quiet_op; first | go_big_quiet_on | (refine ⟨_, fun _ _ => rfl, ?_⟩; go_big_quiet_on)))
            go_big_quiet_want
            go_big_quiet_op
            refine ⟨.int .i64 x, fun w' hw' => ?_, ?_⟩
            · have q := HCK.out w' hw'.out
              try simp at q
              simp [go_sem, q]
            go_big_quiet_on
            repeat (first | go_big_quiet_skip | (go_big_quiet_want; go_big_quiet_op; first | go_big_quiet_on | (refine ⟨_, fun _ _ => rfl, ?_⟩; go_big_quiet_on)))
            refine wpQuiet_nil ?_
            intro w3 hw3
            clear hd HD
            go_wp2
            go_roundw
            case rel => exact ⟨j + 1, by omega, by go_num, HJ, hw3⟩
            case measure => simp [intOf]; omega
        · obtain rfl : j = k := by omega
          have HJ : Hid (OdTo o n (j + 1)) := Lib.hid ⟨fun i hi => by
            by_cases e : i < j
            · exact hO.out.bd i e
            · obtain rfl : i = j := by omega
              rw [HXK.out]; exact HIN.out, fun i i' hii hi => by
            by_cases e : i' < j
            · exact hO.out.inj i i' hii e
            · obtain rfl : i' = j := by omega
              rw [HXK.out]; exact hjj.out i hii⟩
          go_wp2
          go_roundw
          case rel => exact ⟨j + 1, by omega, by go_num, HJ, hI⟩
          case measure => simp [intOf]; omega
    · obtain rfl : k = n := by omega
      by_cases hm : (k : Int) = m
      · subst hm
        have hd0 : ((k : Int) == (k : Int)) = true := by simp
        by_cases h5 : 1 ≤ (k : Int) ∧ (k : Int) ≤ 5
        · have HX := Lib.hid (HY.out rfl h5.1 h5.2 hO.out)
          have hd : (decide (1 ≤ (k : Int)) && decide ((k : Int) ≤ 5)) = true := by simp; omega
          clear h5
          go_wp2_with fail
          refine (l1In_tb hd _).mono ?_
          rintro e w2 ⟨rfl, rfl⟩
          go_wp2
          go_ret
          exact ⟨by rw [HX.out]; rfl, hB.out⟩
        · have HX := Lib.hid (HN.out _ H2.out h5)
          have hd : (decide (1 ≤ (k : Int)) && decide ((k : Int) ≤ 5)) = false := by simp; omega
          clear h5
          go_wp2_with fail
          refine (l1In_tb hd _).mono ?_
          rintro e w2 ⟨rfl, rfl⟩
          go_wp2
          go_ret
          exact ⟨by rw [HX.out]; rfl, hB.out⟩
      · have HX := Lib.hid (HN.out _ H1.out hm)
        have hd0 : ((k : Int) == m) = false := by simp [hm]
        clear hm
        go_wp2
        go_ret
        exact ⟨by rw [HX.out]; rfl, hB.out⟩

/-- What the first k rounds of GraphOk have shown. -/
structure GkTo (p : Int) (es : List Int) (k : Nat) : Prop where
  ed : ∀ j, j < k → 1 ≤ p → Ed p (nth es j)
  asc : ∀ j, j + 1 < k → nth es j < nth es (j + 1)

set_option maxHeartbeats 6400000 in
theorem sgk_any (p : Int) (v : Value) (es : List Int) (w : World) (h : Ints w v es) (hp : intIn p) (hs : ∀ j, j < es.length → intIn (nth es j)) : Calls Tryd.prog 58 #[.agg #[.int .i64 p, v]] w fun e w' => e = .returned (.bool (gkB p es)) ∧ Below w.heap.size w w' := by
  obtain ⟨a, c, rfl, k1⟩ := h.opened
  have hm1 := k1.max
  have HC := Lib.hid (show ∀ k, k < es.length → ∃ G, a = some ⟨G, 0, none⟩ ∧ ∀ w', Below w.heap.size w w' → w'.cell? ⟨G, k, none⟩ = some (.int .i64 (nth es k)) from fun k hk => by
    obtain ⟨G, e1, hl, e2⟩ := k1.get k hk
    exact ⟨G, e1, fun w' hb => (hb.cell (p := ⟨G, k, none⟩) hl).trans e2⟩)
  obtain ⟨n, hn⟩ : ∃ n, es.length = n := ⟨_, rfl⟩
  have HN := Lib.hid (show ∀ q : Prop, (Gk p es → q) → ¬ q → gkB p es = false from fun q h1 h2 => gkB_false fun hc => h2 (h1 hc))
  have HY := Lib.hid (show 1 ≤ p → p ≤ 5 → GkTo p es n → gkB p es = true from by
    subst hn
    intro h2 h3 h4
    exact gkB_true.2 ⟨h2, h3, fun j hj => h4.ed j hj h2, asc_next.2 h4.asc⟩)
  have H2 := Lib.hid (show Gk p es → 1 ≤ p ∧ p ≤ 5 from fun h => ⟨h.p1, h.p5⟩)
  have H3 := Lib.hid (show Gk p es → ∀ k, k < n → Ed p (nth es k) from fun h k hk => h.ed k (by omega))
  have H4 := Lib.hid (show Gk p es → ∀ k, k + 1 < n → nth es k < nth es (k + 1) from fun h k hk => asc_next.1 h.asc k (by omega))
  have HS := Lib.hid (show ∀ k, k < n → intIn (nth es k) from fun k hk => hs k (by omega))
  rw [hn] at hm1 HC ⊢
  unfold maxLen at hm1
  obtain ⟨hp1, hp2⟩ := hp
  obtain ⟨P1, qP⟩ : ∃ P1, wrap64 (p - 1) = P1 := ⟨_, rfl⟩
  have HP1 := Lib.hid (show 1 ≤ p → P1 = p - 1 from fun h => by rw [← qP]; exact w64_in (by omega) (by omega))
  have HP2 := Lib.hid (show Gk p es → P1 = p - 1 from fun h => by have := h.p1; rw [← qP]; exact w64_in (by omega) (by omega))
  clear h k1 hn hs
  have I0 := Lib.hid (InB.start w [.int .i64 p, .slice a n c] 25)
  go_enter Tryd.func58, Tryd.ntmps58
  go_wp2
  go_loopw [3] (fun i wr => ∃ k : Nat, k ≤ n ∧ i = .int .i64 k ∧ Hid (GkTo p es k) ∧ Hid (InB w [.int .i64 p, .slice a n c] 25 wr)) (fun i _ => n - (intOf i).toNat)
  case atStart => exact ⟨0, by omega, rfl, Lib.hid ⟨fun j hj => by omega, fun j hj => by omega⟩, I0⟩
  case round =>
    obtain ⟨k, hk, rfl, hO, hI⟩ := hrel
    obtain ⟨wo, rfl⟩ : ∃ wo : World, wo = wr := ⟨_, rfl⟩
    clear I0
    have b0 := hI.out.box.cell 0
    have b1 := hI.out.box.cell 1
    simp at b0 b1
    by_cases hlt : k < n
    · obtain ⟨G, rfl, hck⟩ := HC.out k hlt
      obtain ⟨x, hx⟩ : ∃ x, nth es k = x := ⟨_, rfl⟩
      have HXK := Lib.hid hx
      obtain ⟨x1, x2⟩ := HS.out k hlt
      rw [hx] at hck x1 x2
      have HCK := Lib.hid (show ∀ w', InB w [.int .i64 p, .slice (some ⟨G, 0, none⟩) n c] 25 w' → w'.cell? ⟨G, k, none⟩ = some (.int .i64 x) from fun w' h => hck w' h.fin)
      obtain ⟨A, hA⟩ : ∃ A, x.tdiv 10 = A := ⟨_, rfl⟩
      obtain ⟨B, hB⟩ : ∃ B, x.tmod 10 = B := ⟨_, rfl⟩
      have t1 := ten_parts x
      have t2 := tmod_bd x 10 (by omega)
      rw [hA, hB] at t1
      rw [hB] at t2
      have HE := Lib.hid (show Ed p x ↔ (0 ≤ A ∧ A < B ∧ B < p) from by subst hA hB; exact ⟨fun h => ⟨h.a0, h.ab, h.bp⟩, fun h => ⟨h.1, h.2.1, h.2.2⟩⟩)
      have qA : IntKind.wrap .i64 (x.tdiv 10) = A := by rw [hA]; exact IntWalk.i64_in _ (by omega)
      have qB : wrap64 (B - 1) = B - 1 := w64_in (by omega) (by omega)
      have hlt1 : (k : Int) < (n : Int) := by omega
      have HD : Hid (InB w [.int .i64 p, .slice (some ⟨G, 0, none⟩) n c] 25 wo.drew) := Lib.hid (hI.out.on (Below.refl _ _).drew)
      clear hx hck t1 hA
      by_cases c1 : 0 ≤ A ∧ A ≤ B - 1
      case neg =>
        have HX := Lib.hid (HN.out _ H3.out (fun h => by have := HE.out.1 (by have := h k hlt; rwa [HXK.out] at this); omega))
        have h1 : (decide (0 ≤ A) && decide (A ≤ B - 1)) = false := by simp; omega
        clear c1
        go_wp2_with fail
        refine wp_region_cls (C := fun w' => Hid (InB w [.int .i64 p, .slice (some ⟨G, 0, none⟩) n c] 25 w')) (by kernel_rfl) (by kernel_rfl) HD ?_
        repeat (first | go_big_quiet_skip | (go_big_quiet_want; go_big_quiet_op; first | go_big_quiet_on | (refine ⟨_, fun _ _ => rfl, ?_⟩; go_big_quiet_on)))
        go_big_quiet_want
        go_big_quiet_op
        refine ⟨.slice (some ⟨G, 0, none⟩) n c, fun w' hw' => ?_, ?_⟩
        · have q := hw'.out.box.cell 1
          try simp at q
          simp [go_sem, q]
        go_big_quiet_on
        repeat (first | go_big_quiet_skip | (go_big_quiet_want; go_big_quiet_op; first | go_big_quiet_on | (refine ⟨_, fun _ _ => rfl, ?_⟩; go_big_quiet_on)))
        go_big_quiet_want
        go_big_quiet_op
        refine ⟨.int .i64 x, fun w' hw' => ?_, ?_⟩
        · have q := HCK.out w' hw'.out
          try simp at q
          simp [go_sem, q]
        go_big_quiet_on
        repeat (first | go_big_quiet_skip | (go_big_quiet_want; go_big_quiet_op; first | go_big_quiet_on | (refine ⟨_, fun _ _ => rfl, ?_⟩; go_big_quiet_on)))
        go_big_quiet_want
        go_big_quiet_op
        refine ⟨.slice (some ⟨G, 0, none⟩) n c, fun w' hw' => ?_, ?_⟩
        · have q := hw'.out.box.cell 1
          try simp at q
          simp [go_sem, q]
        go_big_quiet_on
        repeat (first | go_big_quiet_skip | (go_big_quiet_want; go_big_quiet_op; first | go_big_quiet_on | (refine ⟨_, fun _ _ => rfl, ?_⟩; go_big_quiet_on)))
        go_big_quiet_want
        go_big_quiet_op
        refine ⟨.int .i64 x, fun w' hw' => ?_, ?_⟩
        · have q := HCK.out w' hw'.out
          try simp at q
          simp [go_sem, q]
        go_big_quiet_on
        repeat (first | go_big_quiet_skip | (go_big_quiet_want; go_big_quiet_op; first | go_big_quiet_on | (refine ⟨_, fun _ _ => rfl, ?_⟩; go_big_quiet_on)))
        go_big_quiet_want
        go_big_quiet_op
        go_big_quiet_call ((intro hw; exact (l1In_tb h1 _).mono fun _ _ ⟨he, hb⟩ => ⟨he, by rw [← hb]; exact hw⟩))
        repeat (first | go_big_quiet_skip | (go_big_quiet_want; go_big_quiet_op; first | go_big_quiet_on | (refine ⟨_, fun _ _ => rfl, ?_⟩; go_big_quiet_on)))
        refine wpQuiet_nil ?_
        intro w3 hw3
        clear h1
        clear b0 b1 HD
        go_wp2
        go_ret
        exact ⟨by rw [HX.out]; rfl, hw3.out.fin⟩
      have h1 : (decide (0 ≤ A) && decide (A ≤ B - 1)) = true := by simp; omega
      by_cases c2 : 1 ≤ B ∧ B ≤ P1
      case neg =>
        have HX := Lib.hid (HN.out _ (fun h => And.intro (H3.out h k hlt) (HP2.out h)) (fun h => by have := HE.out.1 (by have := h.1; rwa [HXK.out] at this); have := h.2; omega))
        have h2 : (decide (1 ≤ B) && decide (B ≤ P1)) = false := by simp; omega
        clear c1 c2
        go_wp2_with fail
        refine wp_region_cls (C := fun w' => Hid (InB w [.int .i64 p, .slice (some ⟨G, 0, none⟩) n c] 25 w')) (by kernel_rfl) (by kernel_rfl) HD ?_
        repeat (first | go_big_quiet_skip | (go_big_quiet_want; go_big_quiet_op; first | go_big_quiet_on | (refine ⟨_, fun _ _ => rfl, ?_⟩; go_big_quiet_on)))
        go_big_quiet_want
        go_big_quiet_op
        refine ⟨.slice (some ⟨G, 0, none⟩) n c, fun w' hw' => ?_, ?_⟩
        · have q := hw'.out.box.cell 1
          try simp at q
          simp [go_sem, q]
        go_big_quiet_on
        repeat (first | go_big_quiet_skip | (go_big_quiet_want; go_big_quiet_op; first | go_big_quiet_on | (refine ⟨_, fun _ _ => rfl, ?_⟩; go_big_quiet_on)))
        go_big_quiet_want
        go_big_quiet_op
        refine ⟨.int .i64 x, fun w' hw' => ?_, ?_⟩
        · have q := HCK.out w' hw'.out
          try simp at q
          simp [go_sem, q]
        go_big_quiet_on
        repeat (first | go_big_quiet_skip | (go_big_quiet_want; go_big_quiet_op; first | go_big_quiet_on | (refine ⟨_, fun _ _ => rfl, ?_⟩; go_big_quiet_on)))
        go_big_quiet_want
        go_big_quiet_op
        refine ⟨.slice (some ⟨G, 0, none⟩) n c, fun w' hw' => ?_, ?_⟩
        · have q := hw'.out.box.cell 1
          try simp at q
          simp [go_sem, q]
        go_big_quiet_on
        repeat (first | go_big_quiet_skip | (go_big_quiet_want; go_big_quiet_op; first | go_big_quiet_on | (refine ⟨_, fun _ _ => rfl, ?_⟩; go_big_quiet_on)))
        go_big_quiet_want
        go_big_quiet_op
        refine ⟨.int .i64 x, fun w' hw' => ?_, ?_⟩
        · have q := HCK.out w' hw'.out
          try simp at q
          simp [go_sem, q]
        go_big_quiet_on
        repeat (first | go_big_quiet_skip | (go_big_quiet_want; go_big_quiet_op; first | go_big_quiet_on | (refine ⟨_, fun _ _ => rfl, ?_⟩; go_big_quiet_on)))
        go_big_quiet_want
        go_big_quiet_op
        go_big_quiet_call ((intro hw; exact (l1In_tb h1 _).mono fun _ _ ⟨he, hb⟩ => ⟨he, by rw [← hb]; exact hw⟩))
        repeat (first | go_big_quiet_skip | (go_big_quiet_want; go_big_quiet_op; first | go_big_quiet_on | (refine ⟨_, fun _ _ => rfl, ?_⟩; go_big_quiet_on)))
        go_big_quiet_want
        go_big_quiet_op
        refine ⟨.slice (some ⟨G, 0, none⟩) n c, fun w' hw' => ?_, ?_⟩
        · have q := hw'.out.box.cell 1
          try simp at q
          simp [go_sem, q]
        go_big_quiet_on
        repeat (first | go_big_quiet_skip | (go_big_quiet_want; go_big_quiet_op; first | go_big_quiet_on | (refine ⟨_, fun _ _ => rfl, ?_⟩; go_big_quiet_on)))
        go_big_quiet_want
        go_big_quiet_op
        refine ⟨.int .i64 x, fun w' hw' => ?_, ?_⟩
        · have q := HCK.out w' hw'.out
          try simp at q
          simp [go_sem, q]
        go_big_quiet_on
        repeat (first | go_big_quiet_skip | (go_big_quiet_want; go_big_quiet_op; first | go_big_quiet_on | (refine ⟨_, fun _ _ => rfl, ?_⟩; go_big_quiet_on)))
        go_big_quiet_want
        go_big_quiet_op
        refine ⟨.int .i64 p, fun w' hw' => ?_, ?_⟩
        · have q := hw'.out.box.cell 0
          try simp at q
          simp [go_sem, q]
        go_big_quiet_on
        repeat (first | go_big_quiet_skip | (go_big_quiet_want; go_big_quiet_op; first | go_big_quiet_on | (refine ⟨_, fun _ _ => rfl, ?_⟩; go_big_quiet_on)))
        go_big_quiet_want
        go_big_quiet_op
        go_big_quiet_call ((intro hw; exact (l1In_tb h2 _).mono fun _ _ ⟨he, hb⟩ => ⟨he, by rw [← hb]; exact hw⟩))
        repeat (first | go_big_quiet_skip | (go_big_quiet_want; go_big_quiet_op; first | go_big_quiet_on | (refine ⟨_, fun _ _ => rfl, ?_⟩; go_big_quiet_on)))
        refine wpQuiet_nil ?_
        intro w3 hw3
        clear h1 h2
        clear b0 b1 HD
        go_wp2
        go_ret
        exact ⟨by rw [HX.out]; rfl, hw3.out.fin⟩
      have h2 : (decide (1 ≤ B) && decide (B ≤ P1)) = true := by simp; omega
      have HED := Lib.hid (fun (h1 : 1 ≤ p) => HE.out.2 ⟨c1.1, by omega, by have := HP1.out h1; omega⟩)
      clear c1 c2
      by_cases hk0 : k = 0
      · have d1 : decide ((0 : Int) < (k : Int)) = false := decide_eq_false (by omega)
        have d2 : decide (0 < k) = false := decide_eq_false (by omega)
        have HJ : Hid (GkTo p es (k + 1)) := Lib.hid ⟨fun j hj => by
          obtain rfl : j = k := by omega
          rw [HXK.out]; exact HED.out, fun j hj => by omega⟩
        clear hk0
        go_wp2_with fail
        refine wp_region_cls (C := fun w' => Hid (InB w [.int .i64 p, .slice (some ⟨G, 0, none⟩) n c] 25 w')) (by kernel_rfl) (by kernel_rfl) HD ?_
        repeat (first | go_big_quiet_skip | (go_big_quiet_want; go_big_quiet_op; first | go_big_quiet_on | (refine ⟨_, fun _ _ => rfl, ?_⟩; go_big_quiet_on)))
        go_big_quiet_want
        go_big_quiet_op
        refine ⟨.slice (some ⟨G, 0, none⟩) n c, fun w' hw' => ?_, ?_⟩
        · have q := hw'.out.box.cell 1
          try simp at q
          simp [go_sem, q]
        go_big_quiet_on
        repeat (first | go_big_quiet_skip | (go_big_quiet_want; go_big_quiet_op; first | go_big_quiet_on | (refine ⟨_, fun _ _ => rfl, ?_⟩; go_big_quiet_on)))
        go_big_quiet_want
        go_big_quiet_op
        refine ⟨.int .i64 x, fun w' hw' => ?_, ?_⟩
        · have q := HCK.out w' hw'.out
          try simp at q
          simp [go_sem, q]
        go_big_quiet_on
        repeat (first | go_big_quiet_skip | (go_big_quiet_want; go_big_quiet_op; first | go_big_quiet_on | (refine ⟨_, fun _ _ => rfl, ?_⟩; go_big_quiet_on)))
        go_big_quiet_want
        go_big_quiet_op
        refine ⟨.slice (some ⟨G, 0, none⟩) n c, fun w' hw' => ?_, ?_⟩
        · have q := hw'.out.box.cell 1
          try simp at q
          simp [go_sem, q]
        go_big_quiet_on
        repeat (first | go_big_quiet_skip | (go_big_quiet_want; go_big_quiet_op; first | go_big_quiet_on | (refine ⟨_, fun _ _ => rfl, ?_⟩; go_big_quiet_on)))
        go_big_quiet_want
        go_big_quiet_op
        refine ⟨.int .i64 x, fun w' hw' => ?_, ?_⟩
        · have q := HCK.out w' hw'.out
          try simp at q
          simp [go_sem, q]
        go_big_quiet_on
        repeat (first | go_big_quiet_skip | (go_big_quiet_want; go_big_quiet_op; first | go_big_quiet_on | (refine ⟨_, fun _ _ => rfl, ?_⟩; go_big_quiet_on)))
        go_big_quiet_want
        go_big_quiet_op
        go_big_quiet_call ((intro hw; exact (l1In_tb h1 _).mono fun _ _ ⟨he, hb⟩ => ⟨he, by rw [← hb]; exact hw⟩))
        repeat (first | go_big_quiet_skip | (go_big_quiet_want; go_big_quiet_op; first | go_big_quiet_on | (refine ⟨_, fun _ _ => rfl, ?_⟩; go_big_quiet_on)))
        go_big_quiet_want
        go_big_quiet_op
        refine ⟨.slice (some ⟨G, 0, none⟩) n c, fun w' hw' => ?_, ?_⟩
        · have q := hw'.out.box.cell 1
          try simp at q
          simp [go_sem, q]
        go_big_quiet_on
        repeat (first | go_big_quiet_skip | (go_big_quiet_want; go_big_quiet_op; first | go_big_quiet_on | (refine ⟨_, fun _ _ => rfl, ?_⟩; go_big_quiet_on)))
        go_big_quiet_want
        go_big_quiet_op
        refine ⟨.int .i64 x, fun w' hw' => ?_, ?_⟩
        · have q := HCK.out w' hw'.out
          try simp at q
          simp [go_sem, q]
        go_big_quiet_on
        repeat (first | go_big_quiet_skip | (go_big_quiet_want; go_big_quiet_op; first | go_big_quiet_on | (refine ⟨_, fun _ _ => rfl, ?_⟩; go_big_quiet_on)))
        go_big_quiet_want
        go_big_quiet_op
        refine ⟨.int .i64 p, fun w' hw' => ?_, ?_⟩
        · have q := hw'.out.box.cell 0
          try simp at q
          simp [go_sem, q]
        go_big_quiet_on
        repeat (first | go_big_quiet_skip | (go_big_quiet_want; go_big_quiet_op; first | go_big_quiet_on | (refine ⟨_, fun _ _ => rfl, ?_⟩; go_big_quiet_on)))
        go_big_quiet_want
        go_big_quiet_op
        go_big_quiet_call ((intro hw; exact (l1In_tb h2 _).mono fun _ _ ⟨he, hb⟩ => ⟨he, by rw [← hb]; exact hw⟩))
        repeat (first | go_big_quiet_skip | (go_big_quiet_want; go_big_quiet_op; first | go_big_quiet_on | (refine ⟨_, fun _ _ => rfl, ?_⟩; go_big_quiet_on)))
        refine wpQuiet_nil ?_
        intro w3 hw3
        clear h1 h2 b0 b1 HD d1 d2
        go_wp2
        go_roundw
        case rel => exact ⟨k + 1, by omega, by go_num, HJ, hw3⟩
        case measure => simp [intOf]; omega
      · obtain ⟨q, rfl⟩ : ∃ q, k = q + 1 := ⟨k - 1, by omega⟩
        obtain ⟨G', eG, hcq⟩ := HC.out q (by omega)
        obtain rfl : G = G' := by cases eG; rfl
        obtain ⟨y, hy⟩ : ∃ y, nth es q = y := ⟨_, rfl⟩
        have HYQ := Lib.hid hy
        rw [hy] at hcq
        have HCQ := Lib.hid (show ∀ w', InB w [.int .i64 p, .slice (some ⟨G, 0, none⟩) n c] 25 w' → w'.cell? ⟨G, q, none⟩ = some (.int .i64 y) from fun w' h => hcq w' h.fin)
        have e1 : ((q + 1 : Nat) : Int) - 1 = (q : Int) := by omega
        have hqn : (q : Int) < (n : Int) := by omega
        have d1 : decide ((0 : Int) < ((q + 1 : Nat) : Int)) = true := decide_eq_true (by omega)
        have d2 : decide (0 < q + 1) = true := decide_eq_true (by omega)
        clear hy hcq eG hk0
        by_cases hxy : x ≤ y
        · have hd : decide (x ≤ y) = true := decide_eq_true hxy
          have HX := Lib.hid (HN.out _ H4.out (fun h => by have := h q hlt; rw [HXK.out, HYQ.out] at this; omega))
          clear hxy
          go_wp2_with fail
          refine wp_region_cls (C := fun w' => Hid (InB w [.int .i64 p, .slice (some ⟨G, 0, none⟩) n c] 25 w')) (by kernel_rfl) (by kernel_rfl) HD ?_
          repeat (first | go_big_quiet_skip | (go_big_quiet_want; go_big_quiet_op; first | go_big_quiet_on | (refine ⟨_, fun _ _ => rfl, ?_⟩; go_big_quiet_on)))
          go_big_quiet_want
          go_big_quiet_op
          refine ⟨.slice (some ⟨G, 0, none⟩) n c, fun w' hw' => ?_, ?_⟩
          · have q := hw'.out.box.cell 1
            try simp at q
            simp [go_sem, q]
          go_big_quiet_on
          repeat (first | go_big_quiet_skip | (go_big_quiet_want; go_big_quiet_op; first | go_big_quiet_on | (refine ⟨_, fun _ _ => rfl, ?_⟩; go_big_quiet_on)))
          go_big_quiet_want
          go_big_quiet_op
          refine ⟨.int .i64 x, fun w' hw' => ?_, ?_⟩
          · have q := HCK.out w' hw'.out
            try simp at q
            simp [go_sem, q]
          go_big_quiet_on
          repeat (first | go_big_quiet_skip | (go_big_quiet_want; go_big_quiet_op; first | go_big_quiet_on | (refine ⟨_, fun _ _ => rfl, ?_⟩; go_big_quiet_on)))
          go_big_quiet_want
          go_big_quiet_op
          refine ⟨.slice (some ⟨G, 0, none⟩) n c, fun w' hw' => ?_, ?_⟩
          · have q := hw'.out.box.cell 1
            try simp at q
            simp [go_sem, q]
          go_big_quiet_on
          repeat (first | go_big_quiet_skip | (go_big_quiet_want; go_big_quiet_op; first | go_big_quiet_on | (refine ⟨_, fun _ _ => rfl, ?_⟩; go_big_quiet_on)))
          go_big_quiet_want
          go_big_quiet_op
          refine ⟨.int .i64 x, fun w' hw' => ?_, ?_⟩
          · have q := HCK.out w' hw'.out
            try simp at q
            simp [go_sem, q]
          go_big_quiet_on
          repeat (first | go_big_quiet_skip | (go_big_quiet_want; go_big_quiet_op; first | go_big_quiet_on | (refine ⟨_, fun _ _ => rfl, ?_⟩; go_big_quiet_on)))
          go_big_quiet_want
          go_big_quiet_op
          go_big_quiet_call ((intro hw; exact (l1In_tb h1 _).mono fun _ _ ⟨he, hb⟩ => ⟨he, by rw [← hb]; exact hw⟩))
          repeat (first | go_big_quiet_skip | (go_big_quiet_want; go_big_quiet_op; first | go_big_quiet_on | (refine ⟨_, fun _ _ => rfl, ?_⟩; go_big_quiet_on)))
          go_big_quiet_want
          go_big_quiet_op
          refine ⟨.slice (some ⟨G, 0, none⟩) n c, fun w' hw' => ?_, ?_⟩
          · have q := hw'.out.box.cell 1
            try simp at q
            simp [go_sem, q]
          go_big_quiet_on
          repeat (first | go_big_quiet_skip | (go_big_quiet_want; go_big_quiet_op; first | go_big_quiet_on | (refine ⟨_, fun _ _ => rfl, ?_⟩; go_big_quiet_on)))
          go_big_quiet_want
          go_big_quiet_op
          refine ⟨.int .i64 x, fun w' hw' => ?_, ?_⟩
          · have q := HCK.out w' hw'.out
            try simp at q
            simp [go_sem, q]
          go_big_quiet_on
          repeat (first | go_big_quiet_skip | (go_big_quiet_want; go_big_quiet_op; first | go_big_quiet_on | (refine ⟨_, fun _ _ => rfl, ?_⟩; go_big_quiet_on)))
          go_big_quiet_want
          go_big_quiet_op
          refine ⟨.int .i64 p, fun w' hw' => ?_, ?_⟩
          · have q := hw'.out.box.cell 0
            try simp at q
            simp [go_sem, q]
          go_big_quiet_on
          repeat (first | go_big_quiet_skip | (go_big_quiet_want; go_big_quiet_op; first | go_big_quiet_on | (refine ⟨_, fun _ _ => rfl, ?_⟩; go_big_quiet_on)))
          go_big_quiet_want
          go_big_quiet_op
          go_big_quiet_call ((intro hw; exact (l1In_tb h2 _).mono fun _ _ ⟨he, hb⟩ => ⟨he, by rw [← hb]; exact hw⟩))
          repeat (first | go_big_quiet_skip | (go_big_quiet_want; go_big_quiet_op; first | go_big_quiet_on | (refine ⟨_, fun _ _ => rfl, ?_⟩; go_big_quiet_on)))
          go_big_quiet_want
          go_big_quiet_op
          refine ⟨.slice (some ⟨G, 0, none⟩) n c, fun w' hw' => ?_, ?_⟩
          · have q := hw'.out.box.cell 1
            try simp at q
            simp [go_sem, q]
          go_big_quiet_on
          repeat (first | go_big_quiet_skip | (go_big_quiet_want; go_big_quiet_op; first | go_big_quiet_on | (refine ⟨_, fun _ _ => rfl, ?_⟩; go_big_quiet_on)))
          go_big_quiet_want
          go_big_quiet_op
          refine ⟨.int .i64 x, fun w' hw' => ?_, ?_⟩
          · have q := HCK.out w' hw'.out
            try simp at q
            simp [go_sem, q]
          go_big_quiet_on
          repeat (first | go_big_quiet_skip | (go_big_quiet_want; go_big_quiet_op; first | go_big_quiet_on | (refine ⟨_, fun _ _ => rfl, ?_⟩; go_big_quiet_on)))
          go_big_quiet_want
          go_big_quiet_op
          refine ⟨.slice (some ⟨G, 0, none⟩) n c, fun w' hw' => ?_, ?_⟩
          · have q := hw'.out.box.cell 1
            try simp at q
            simp [go_sem, q]
          go_big_quiet_on
          repeat (first | go_big_quiet_skip | (go_big_quiet_want; go_big_quiet_op; first | go_big_quiet_on | (refine ⟨_, fun _ _ => rfl, ?_⟩; go_big_quiet_on)))
          go_big_quiet_want
          go_big_quiet_op
          refine ⟨.int .i64 y, fun w' hw' => ?_, ?_⟩
          · have q := HCQ.out w' hw'.out
            try simp at q
            simp [go_sem, q]
          go_big_quiet_on
          repeat (first | go_big_quiet_skip | (go_big_quiet_want; go_big_quiet_op; first | go_big_quiet_on | (refine ⟨_, fun _ _ => rfl, ?_⟩; go_big_quiet_on)))
          refine wpQuiet_nil ?_
          intro w3 hw3
          clear h1 h2 hd b0 b1 HD d1 d2 e1
          go_wp2
          go_ret
          exact ⟨by rw [HX.out]; rfl, hw3.out.fin⟩
        · have hd : decide (x ≤ y) = false := decide_eq_false hxy
          have HJ : Hid (GkTo p es (q + 1 + 1)) := Lib.hid ⟨fun j hj => by
            by_cases e : j < q + 1
            · exact hO.out.ed j e
            · obtain rfl : j = q + 1 := by omega
              rw [HXK.out]; exact HED.out, fun j hj => by
            by_cases e : j + 1 < q + 1
            · exact hO.out.asc j e
            · obtain rfl : j = q := by omega
              rw [HXK.out, HYQ.out]; omega⟩
          clear hxy
          go_wp2_with fail
          refine wp_region_cls (C := fun w' => Hid (InB w [.int .i64 p, .slice (some ⟨G, 0, none⟩) n c] 25 w')) (by kernel_rfl) (by kernel_rfl) HD ?_
          repeat (first | go_big_quiet_skip | (go_big_quiet_want; go_big_quiet_op; first | go_big_quiet_on | (refine ⟨_, fun _ _ => rfl, ?_⟩; go_big_quiet_on)))
          go_big_quiet_want
          go_big_quiet_op
          refine ⟨.slice (some ⟨G, 0, none⟩) n c, fun w' hw' => ?_, ?_⟩
          · have q := hw'.out.box.cell 1
            try simp at q
            simp [go_sem, q]
          go_big_quiet_on
          repeat (first | go_big_quiet_skip | (go_big_quiet_want; go_big_quiet_op; first | go_big_quiet_on | (refine ⟨_, fun _ _ => rfl, ?_⟩; go_big_quiet_on)))
          go_big_quiet_want
          go_big_quiet_op
          refine ⟨.int .i64 x, fun w' hw' => ?_, ?_⟩
          · have q := HCK.out w' hw'.out
            try simp at q
            simp [go_sem, q]
          go_big_quiet_on
          repeat (first | go_big_quiet_skip | (go_big_quiet_want; go_big_quiet_op; first | go_big_quiet_on | (refine ⟨_, fun _ _ => rfl, ?_⟩; go_big_quiet_on)))
          go_big_quiet_want
          go_big_quiet_op
          refine ⟨.slice (some ⟨G, 0, none⟩) n c, fun w' hw' => ?_, ?_⟩
          · have q := hw'.out.box.cell 1
            try simp at q
            simp [go_sem, q]
          go_big_quiet_on
          repeat (first | go_big_quiet_skip | (go_big_quiet_want; go_big_quiet_op; first | go_big_quiet_on | (refine ⟨_, fun _ _ => rfl, ?_⟩; go_big_quiet_on)))
          go_big_quiet_want
          go_big_quiet_op
          refine ⟨.int .i64 x, fun w' hw' => ?_, ?_⟩
          · have q := HCK.out w' hw'.out
            try simp at q
            simp [go_sem, q]
          go_big_quiet_on
          repeat (first | go_big_quiet_skip | (go_big_quiet_want; go_big_quiet_op; first | go_big_quiet_on | (refine ⟨_, fun _ _ => rfl, ?_⟩; go_big_quiet_on)))
          go_big_quiet_want
          go_big_quiet_op
          go_big_quiet_call ((intro hw; exact (l1In_tb h1 _).mono fun _ _ ⟨he, hb⟩ => ⟨he, by rw [← hb]; exact hw⟩))
          repeat (first | go_big_quiet_skip | (go_big_quiet_want; go_big_quiet_op; first | go_big_quiet_on | (refine ⟨_, fun _ _ => rfl, ?_⟩; go_big_quiet_on)))
          go_big_quiet_want
          go_big_quiet_op
          refine ⟨.slice (some ⟨G, 0, none⟩) n c, fun w' hw' => ?_, ?_⟩
          · have q := hw'.out.box.cell 1
            try simp at q
            simp [go_sem, q]
          go_big_quiet_on
          repeat (first | go_big_quiet_skip | (go_big_quiet_want; go_big_quiet_op; first | go_big_quiet_on | (refine ⟨_, fun _ _ => rfl, ?_⟩; go_big_quiet_on)))
          go_big_quiet_want
          go_big_quiet_op
          refine ⟨.int .i64 x, fun w' hw' => ?_, ?_⟩
          · have q := HCK.out w' hw'.out
            try simp at q
            simp [go_sem, q]
          go_big_quiet_on
          repeat (first | go_big_quiet_skip | (go_big_quiet_want; go_big_quiet_op; first | go_big_quiet_on | (refine ⟨_, fun _ _ => rfl, ?_⟩; go_big_quiet_on)))
          go_big_quiet_want
          go_big_quiet_op
          refine ⟨.int .i64 p, fun w' hw' => ?_, ?_⟩
          · have q := hw'.out.box.cell 0
            try simp at q
            simp [go_sem, q]
          go_big_quiet_on
          repeat (first | go_big_quiet_skip | (go_big_quiet_want; go_big_quiet_op; first | go_big_quiet_on | (refine ⟨_, fun _ _ => rfl, ?_⟩; go_big_quiet_on)))
          go_big_quiet_want
          go_big_quiet_op
          go_big_quiet_call ((intro hw; exact (l1In_tb h2 _).mono fun _ _ ⟨he, hb⟩ => ⟨he, by rw [← hb]; exact hw⟩))
          repeat (first | go_big_quiet_skip | (go_big_quiet_want; go_big_quiet_op; first | go_big_quiet_on | (refine ⟨_, fun _ _ => rfl, ?_⟩; go_big_quiet_on)))
          go_big_quiet_want
          go_big_quiet_op
          refine ⟨.slice (some ⟨G, 0, none⟩) n c, fun w' hw' => ?_, ?_⟩
          · have q := hw'.out.box.cell 1
            try simp at q
            simp [go_sem, q]
          go_big_quiet_on
          repeat (first | go_big_quiet_skip | (go_big_quiet_want; go_big_quiet_op; first | go_big_quiet_on | (refine ⟨_, fun _ _ => rfl, ?_⟩; go_big_quiet_on)))
          go_big_quiet_want
          go_big_quiet_op
          refine ⟨.int .i64 x, fun w' hw' => ?_, ?_⟩
          · have q := HCK.out w' hw'.out
            try simp at q
            simp [go_sem, q]
          go_big_quiet_on
          repeat (first | go_big_quiet_skip | (go_big_quiet_want; go_big_quiet_op; first | go_big_quiet_on | (refine ⟨_, fun _ _ => rfl, ?_⟩; go_big_quiet_on)))
          go_big_quiet_want
          go_big_quiet_op
          refine ⟨.slice (some ⟨G, 0, none⟩) n c, fun w' hw' => ?_, ?_⟩
          · have q := hw'.out.box.cell 1
            try simp at q
            simp [go_sem, q]
          go_big_quiet_on
          repeat (first | go_big_quiet_skip | (go_big_quiet_want; go_big_quiet_op; first | go_big_quiet_on | (refine ⟨_, fun _ _ => rfl, ?_⟩; go_big_quiet_on)))
          go_big_quiet_want
          go_big_quiet_op
          refine ⟨.int .i64 y, fun w' hw' => ?_, ?_⟩
          · have q := HCQ.out w' hw'.out
            try simp at q
            simp [go_sem, q]
          go_big_quiet_on
          repeat (first | go_big_quiet_skip | (go_big_quiet_want; go_big_quiet_op; first | go_big_quiet_on | (refine ⟨_, fun _ _ => rfl, ?_⟩; go_big_quiet_on)))
          refine wpQuiet_nil ?_
          intro w3 hw3
          clear h1 h2 hd b0 b1 HD d1 d2 e1
          go_wp2
          go_roundw
          case rel => exact ⟨q + 1 + 1, by omega, by go_num, HJ, hw3⟩
          case measure => simp [intOf]; omega
    · obtain rfl : k = n := by omega
      by_cases h5 : 1 ≤ p ∧ p ≤ 5
      · have HX := Lib.hid (HY.out h5.1 h5.2 hO.out)
        have hd : (decide (1 ≤ p) && decide (p ≤ 5)) = true := by simp; omega
        clear h5
        go_wp2_with fail
        refine (l1In_tb hd _).mono ?_
        rintro e w2 ⟨rfl, rfl⟩
        clear b0 b1
        go_wp2
        go_ret
        exact ⟨by rw [HX.out]; rfl, hI.out.fin⟩
      · have HX := Lib.hid (HN.out _ H2.out h5)
        have hd : (decide (1 ≤ p) && decide (p ≤ 5)) = false := by simp; omega
        clear h5
        go_wp2_with fail
        refine (l1In_tb hd _).mono ?_
        rintro e w2 ⟨rfl, rfl⟩
        clear b0 b1
        go_wp2
        go_ret
        exact ⟨by rw [HX.out]; rfl, hI.out.fin⟩
end Go.Proofs.YtlcegpmhlnilfabDoor
