/- impl: slices.Index, slices.Contains, OrderOk, endsOf, GraphOk, edgeBetween, sameGraph, twoOk, turnAskOk. -/
import Derived.Test.YtlcegpmhlnilfaaBSp7
import Derived.Test.YtlcegpmhlnilfaaBCl
import Derived.Test.YtlcegpmhlnilfaaCapB
namespace Go.Proofs.Ytlcegpmhlnilfaa
open Go.RowKit

/-- slices.Index: the first place of a number, or -1. -/
def ixF (xs : List Int) (x : Int) : Int := match xs.findIdx? (· == x) with
  | some k => (k : Int)
  | none => -1
theorem ixF_at {xs : List Int} {x : Int} {k : Nat} (hk : k < xs.length) (h : ∀ j, j < k → nth xs j ≠ x) (e : nth xs k = x) : ixF xs x = k := by
  have : xs.findIdx? (· == x) = some k := List.findIdx?_eq_some_iff_getElem.2 ⟨hk, by rw [← nth_get hk, e]; simp, fun j hj => by
    have := h j hj
    rw [nth_get (by omega)] at this
    simpa using this⟩
  unfold ixF; rw [this]
theorem ixF_none {xs : List Int} {x : Int} (h : ∀ j, j < xs.length → nth xs j ≠ x) : ixF xs x = -1 := by
  have : xs.findIdx? (· == x) = none := List.findIdx?_eq_none_iff.2 fun y hy => by
    obtain ⟨j, hj, e⟩ := nth_of hy
    have := h j hj
    rw [e] at this
    simpa using this
  unfold ixF; rw [this]
/-- Whether a number is among them. -/
def inB (xs : List Int) (x : Int) : Bool := decide (0 ≤ ixF xs x)
theorem inB_yes {xs : List Int} {x : Int} {k : Nat} (hk : k < xs.length) (e : nth xs k = x) : inB xs x = true := by
  unfold inB ixF
  cases h : xs.findIdx? (· == x) with
  | some j => simp
  | none =>
    have := List.findIdx?_eq_none_iff.1 h (nth xs k) (nth_mem hk)
    rw [e] at this; simp at this
theorem inB_no {xs : List Int} {x : Int} (h : ∀ j, j < xs.length → nth xs j ≠ x) : inB xs x = false := by
  unfold inB; rw [ixF_none h]; rfl

set_option maxHeartbeats 1600000 in
theorem ix_any (v : Value) (xs : List Int) (x : Int) (w : World) (h : Ints w v xs) : Calls Try.prog 63 #[v, .int .i64 x] w fun e w' => e = .returned (.int .i64 (ixF xs x)) ∧ Below w.heap.size w w' := by
  obtain ⟨a, c, rfl, k1⟩ := h.opened
  obtain ⟨n, hn⟩ : ∃ n, xs.length = n := ⟨_, rfl⟩
  have hmax := k1.max
  have HC := Lib.hid (show ∀ w', Below w.heap.size w w' → ∀ k, k < n → _ from fun w' hb k hk => (k1.on hb).get k (by rw [hn]; exact hk))
  have HY := Lib.hid (show ∀ k, k < n → (∀ j, j < k → nth xs j ≠ x) → nth xs k = x → ixF xs x = k from fun k hk h e => ixF_at (by rw [hn]; exact hk) h e)
  have HN := Lib.hid (show (∀ j, j < n → nth xs j ≠ x) → ixF xs x = -1 from fun h => ixF_none fun j hj => h j (by rw [← hn]; exact hj))
  rw [hn] at hmax ⊢
  unfold maxLen at hmax
  clear h k1 hn
  go_enter Try.func63, Try.ntmps63
  go_wp2
  go_loopw [8] (fun i wr => ∃ k : Nat, k ≤ n ∧ i = .int .i64 k ∧ Hid (∀ j, j < k → nth xs j ≠ x) ∧ Hid (Below w.heap.size w wr)) (fun i _ => n - (intOf i).toNat)
  case atStart => exact ⟨0, by omega, rfl, Lib.hid (fun j hj => by omega), Lib.hid (Below.refl _ _)⟩
  case round =>
    obtain ⟨k, hk, rfl, hj, hb⟩ := hrel
    obtain ⟨wo, rfl⟩ : ∃ wo : World, wo = wr := ⟨_, rfl⟩
    by_cases hlt : k < n
    · obtain ⟨A, rfl, _, hc⟩ := HC.out _ hb.out k hlt
      obtain ⟨y, hy⟩ : ∃ y, nth xs k = y := ⟨_, rfl⟩
      rw [hy] at hc
      have hlt1 : (k : Int) < (n : Int) := by omega
      by_cases he : y = x
      · have HX := Lib.hid (HY.out k hlt hj.out (by rw [hy, he]))
        have hd : (x == y) = true := by simp [he]
        clear hj hy he
        go_wp2
        go_ret
        exact ⟨by rw [HX.out]; rfl, hb.out⟩
      · have HJ : Hid (∀ j, j < k + 1 → nth xs j ≠ x) := Lib.hid (fun j hj' => by
          by_cases e : j < k
          · exact hj.out j e
          · obtain rfl : j = k := by omega
            rw [hy]; exact he)
        have hd : (x == y) = false := by rw [beq_eq_false_iff_ne]; exact fun e => he e.symm
        clear hj hy he
        go_wp2
        go_roundw
        case rel => exact ⟨k + 1, by omega, by go_num, HJ, hb⟩
        case measure => simp [intOf]; omega
    · obtain rfl : k = n := by omega
      have HX := Lib.hid (HN.out hj.out)
      go_wp2
      go_ret
      exact ⟨by rw [HX.out]; rfl, hb.out⟩

theorem ctn_any (v : Value) (xs : List Int) (x : Int) (w : World) (h : Ints w v xs) : Calls Try.prog 40 #[v, .int .i64 x] w fun e w' => e = .returned (.bool (inB xs x)) ∧ Below w.heap.size w w' := by
  obtain ⟨a, c, rfl, _⟩ := h.opened
  have H := Lib.hid h
  obtain ⟨r, hr⟩ : ∃ r, ixF xs x = r := ⟨_, rfl⟩
  have HR := Lib.hid hr
  clear h
  by_cases h0 : 0 ≤ r
  · have HX := Lib.hid (show inB xs x = true by unfold inB; rw [hr]; simpa using h0)
    have hd : decide (0 ≤ r) = true := by simpa using h0
    clear hr
    go_enter Try.func40, Try.ntmps40
    go_wp2_with fail
    refine (ix_any _ xs x _ H.out).mono ?_
    rintro e w1 ⟨rfl, hb⟩
    rw [HR.out]
    have B1 := Lib.hid hb
    clear hb
    go_wp2
    go_ret
    exact ⟨by rw [HX.out]; try rfl, B1.out⟩
  · have HX := Lib.hid (show inB xs x = false by unfold inB; rw [hr]; simpa using h0)
    have hd : decide (0 ≤ r) = false := by simpa using h0
    clear hr
    go_enter Try.func40, Try.ntmps40
    go_wp2_with fail
    refine (ix_any _ xs x _ H.out).mono ?_
    rintro e w1 ⟨rfl, hb⟩
    rw [HR.out]
    have B1 := Lib.hid hb
    clear hb
    go_wp2
    go_ret
    exact ⟨by rw [HX.out]; try rfl, B1.out⟩
theorem ctn_is {v : Value} {xs : List Int} {x : Int} {w : World} {b : Bool} (hb : inB xs x = b) (h : Ints w v xs) : Calls Try.prog 40 #[v, .int .i64 x] w fun e w' => e = .returned (.bool b) ∧ Below w.heap.size w w' := by rw [← hb]; exact ctn_any v xs x w h

theorem nth_take {xs : List Int} {k j : Nat} (h : j < k) : nth (xs.take k) j = nth xs j := by
  unfold nth
  rw [List.getD_eq_getElem?_getD, List.getD_eq_getElem?_getD, List.getElem?_take_of_lt h]
theorem Ints.pre {w : World} {a : Option Addr} {n c k : Nat} {xs : List Int} (h : Ints w (.slice a n c) xs) (hn : xs.length = n) (h0 : 0 < n) (hk : k ≤ n) : Ints w (.slice a k c) (xs.take k) := by
  rcases h with ⟨e, _⟩ | ⟨g, cap, e, h2, h3, h4⟩
  · cases e; omega
  · cases e
    refine .inr ⟨g, c, by rw [List.length_take, Nat.min_eq_left hk], by rw [List.length_take]; omega, h3, fun j hj => ?_⟩
    rw [List.length_take] at hj
    rw [nth_take (by omega)]
    exact h4 j (by omega)

set_option maxHeartbeats 3200000 in
theorem iod_any (v : Value) (o : List Int) (m : Int) (w : World) (h : Ints w v o) (hcap : capB v) : Calls Try.prog 74 #[v, .int .i64 m] w fun e w' => e = .returned (.bool (odB o m)) ∧ Below w.heap.size w w' := by
  obtain ⟨a, c, rfl, k1⟩ := h.opened
  have hm1 := k1.max
  have hcp : o.length ≤ c := hcap _ _ _ rfl
  have HC := Lib.hid (show ∀ k, k < o.length → ∃ G, a = some ⟨G, 0, none⟩ ∧ ∀ w', Below w.heap.size w w' → w'.cell? ⟨G, k, none⟩ = some (.int .i64 (nth o k)) from fun k hk => by
    obtain ⟨G, e1, hl, e2⟩ := k1.get k hk
    exact ⟨G, e1, fun w' hb => (hb.cell (p := ⟨G, k, none⟩) hl).trans e2⟩)
  obtain ⟨n, hn⟩ : ∃ n, o.length = n := ⟨_, rfl⟩
  have HP := Lib.hid (show ∀ w' k, Below w.heap.size w w' → k < n → Ints w' (.slice a k c) (o.take k) from fun w' k hb hk => by
    have := h.below hb
    rw [hn] at this
    exact this.pre hn (by omega) (by omega))
  have HN := Lib.hid (show ∀ p : Prop, (Od o m → p) → ¬ p → odB o m = false from fun p h1 h2 => odB_false fun hc => h2 (h1 hc))
  have HY := Lib.hid (show (n : Int) = m → 1 ≤ m → m ≤ 5 → OdTo o n n → odB o m = true from by
    subst hn
    intro h1 h2 h3 h4
    exact odB_true.2 ⟨h1, h2, h3, fun j hj => by have := h4.bd j hj; omega, fun i j hij hj => h4.inj i j hij hj⟩)
  have H1 := Lib.hid (show Od o m → (n : Int) = m from fun h => by rw [← hn]; exact h.len)
  have H2 := Lib.hid (show Od o m → 1 ≤ m ∧ m ≤ 5 from fun h => ⟨h.m1, h.m5⟩)
  have H3 := Lib.hid (show Od o m → ∀ k, k < n → 0 ≤ nth o k ∧ nth o k < m from fun h k hk => by have := h.bd k (by omega); have := h.len; omega)
  have H4 := Lib.hid (show Od o m → ∀ i j, i < j → j < n → nth o i ≠ nth o j from fun h i j hij hj => h.inj i j hij (by omega))
  rw [hn] at hm1 HC hcp ⊢
  unfold maxLen at hm1
  clear h k1 hcap
  by_cases g1 : m < 1
  · have HX := Lib.hid (HN.out _ H2.out (by omega))
    have d1 : decide (m < 1) = true := by simpa using g1
    clear hn
    go_enter Try.func74, Try.ntmps74
    go_wp2
    go_ret
    exact ⟨by rw [HX.out]; rfl, Below.refl _ _⟩
  have d1 : decide (m < 1) = false := by simpa using g1
  by_cases g2 : 5 < m
  · have HX := Lib.hid (HN.out _ H2.out (by omega))
    have d2 : decide (5 < m) = true := by simpa using g2
    clear hn
    go_enter Try.func74, Try.ntmps74
    go_wp2
    go_ret
    exact ⟨by rw [HX.out]; rfl, Below.refl _ _⟩
  have d2 : decide (5 < m) = false := by simpa using g2
  by_cases g3 : (n : Int) = m
  case neg =>
    have HX := Lib.hid (HN.out _ H1.out g3)
    have d3 : ((n : Int) != m) = true := by simpa using g3
    clear hn
    go_enter Try.func74, Try.ntmps74
    go_wp2
    go_ret
    exact ⟨by rw [HX.out]; rfl, Below.refl _ _⟩
  have HM := Lib.hid (show 1 ≤ m ∧ m ≤ 5 by omega)
  have HL := Lib.hid hn
  subst g3
  have d3 : ((n : Int) != (n : Int)) = false := by simp
  clear hn g1 g2
  go_enter Try.func74, Try.ntmps74
  go_wp2
  clear d1 d2 d3
  go_loopw [21] (fun i wr => ∃ k : Nat, k ≤ n ∧ i = .int .i64 k ∧ Hid (OdTo o n k) ∧ Hid (Below w.heap.size w wr)) (fun i _ => n - (intOf i).toNat)
  case atStart => exact ⟨0, by omega, rfl, Lib.hid ⟨fun j hj => by omega, fun i j _ hj => by omega⟩, Lib.hid (Below.refl _ _)⟩
  case round =>
    obtain ⟨k, hk, rfl, hO, hB⟩ := hrel
    obtain ⟨wo, rfl⟩ : ∃ wo : World, wo = wr := ⟨_, rfl⟩
    by_cases hlt : k < n
    · have HPK := Lib.hid (HP.out wo k hB.out hlt)
      obtain ⟨G, rfl, hck⟩ := HC.out k hlt
      obtain ⟨x, hx⟩ : ∃ x, nth o k = x := ⟨_, rfl⟩
      have HXK := Lib.hid hx
      rw [hx] at hck
      have c1 := hck _ hB.out
      have hlt1 : (k : Int) < (n : Int) := by omega
      have hkc : (k : Int) ≤ (c : Int) := by omega
      have hkc' : k ≤ c := by omega
      clear hx hck
      by_cases e1 : x < 0
      · have HX := Lib.hid (HN.out _ H3.out (fun h => by have := h k hlt; rw [HXK.out] at this; omega))
        have d1 : decide (x < 0) = true := by simpa using e1
        go_wp2
        go_ret
        exact ⟨by rw [HX.out]; rfl, hB.out⟩
      have d1 : decide (x < 0) = false := by simpa using e1
      by_cases e2 : (n : Int) ≤ x
      · have HX := Lib.hid (HN.out _ H3.out (fun h => by have := h k hlt; rw [HXK.out] at this; omega))
        have d2 : decide ((n : Int) ≤ x) = true := by simpa using e2
        go_wp2
        go_ret
        exact ⟨by rw [HX.out]; rfl, hB.out⟩
      have d2 : decide ((n : Int) ≤ x) = false := by simpa using e2
      have HIN := Lib.hid (show 0 ≤ x ∧ x ≤ (n : Int) - 1 by omega)
      clear e1 e2
      cases hb : inB (o.take k) x
      · have HJ : Hid (OdTo o n (k + 1)) := Lib.hid ⟨fun i hi => by
          by_cases e : i < k
          · exact hO.out.bd i e
          · obtain rfl : i = k := by omega
            rw [HXK.out]; exact HIN.out, fun i i' hii hi => by
          by_cases e : i' < k
          · exact hO.out.inj i i' hii e
          · obtain rfl : i' = k := by omega
            rw [HXK.out]
            intro hc
            have := inB_yes (xs := o.take i') (x := x) (k := i) (by rw [List.length_take, HL.out]; omega) (by rw [nth_take hii]; exact hc)
            rw [hb] at this; cases this⟩
        have HBB := Lib.hid hb
        clear hb
        go_wp2_with fail
        refine (ctn_is HBB.out HPK.out).mono ?_
        rintro e w1 ⟨rfl, hb⟩
        have B1 := Lib.hid (Below.on hB.out hb)
        clear hb c1
        go_wp2
        go_roundw
        case rel => exact ⟨k + 1, by omega, by go_num, HJ, B1⟩
        case measure => simp [intOf]; omega
      · have HX := Lib.hid (HN.out _ H4.out (fun h => by
          have : inB (o.take k) x = false := inB_no fun j hj => by
            rw [List.length_take, HL.out] at hj
            rw [nth_take (by omega), ← HXK.out]
            exact h j k (by omega) hlt
          rw [hb] at this; cases this))
        have HBB := Lib.hid hb
        clear hb
        go_wp2_with fail
        refine (ctn_is HBB.out HPK.out).mono ?_
        rintro e w1 ⟨rfl, hb⟩
        have B1 := Lib.hid (Below.on hB.out hb)
        clear hb c1
        go_wp2
        go_ret
        exact ⟨by rw [HX.out]; rfl, B1.out⟩
    · obtain rfl : k = n := by omega
      have HX := Lib.hid (HY.out (by trivial) HM.out.1 HM.out.2 hO.out)
      go_wp2
      go_ret
      exact ⟨by rw [HX.out]; rfl, hB.out⟩
theorem iod_is {v : Value} {o : List Int} {m : Int} {w : World} {r : Bool} (hr : odB o m = r) (h : Ints w v o) (hc : capB v) : Calls Try.prog 74 #[v, .int .i64 m] w fun e w' => e = .returned (.bool r) ∧ Below w.heap.size w w' := by rw [← hr]; exact iod_any v o m w h hc

theorem ends_any (x A B : Int) (w : World) (qA : IntKind.wrap .i64 (x.tdiv 10) = A) (hB : x.tmod 10 = B) : Calls Try.prog 62 #[.int .i64 x] w fun e w' => e = .returned (.tuple #[.int .i64 A, .int .i64 B]) ∧ w' = w := by
  go_enter Try.func62, Try.ntmps62
  go_wp2
  go_ret2
  exact ⟨rfl, rfl⟩
theorem edge_le (x y : Int) (w : World) (h : x ≤ y) (x0 : 0 ≤ x) (x4 : x ≤ 9) (y0 : 0 ≤ y) (y4 : y ≤ 9) : Calls Try.prog 41 #[.int .i64 x, .int .i64 y] w fun e w' => e = .returned (.int .i64 (10 * x + y)) ∧ w' = w := by
  by_cases e : y ≤ x
  · obtain rfl : x = y := by omega
    go_enter Try.func41, Try.ntmps41
    go_wp2
    go_ret
    exact ⟨rfl, rfl⟩
  · go_enter Try.func41, Try.ntmps41
    go_wp2
    go_ret
    exact ⟨rfl, rfl⟩
theorem edge_ge (x y : Int) (w : World) (h : y < x) (x0 : 0 ≤ x) (x4 : x ≤ 9) (y0 : 0 ≤ y) (y4 : y ≤ 9) : Calls Try.prog 41 #[.int .i64 x, .int .i64 y] w fun e w' => e = .returned (.int .i64 (10 * y + x)) ∧ w' = w := by
  have e : ¬ x ≤ y := by omega
  have e' : y ≤ x := by omega
  clear h
  go_enter Try.func41, Try.ntmps41
  go_wp2
  go_ret
  exact ⟨rfl, rfl⟩
theorem edge_any (x y : Int) (w : World) (x0 : 0 ≤ x) (x4 : x ≤ 9) (y0 : 0 ≤ y) (y4 : y ≤ 9) : Calls Try.prog 41 #[.int .i64 x, .int .i64 y] w fun e w' => e = .returned (.int .i64 (10 * min x y + max x y)) ∧ w' = w := by
  by_cases h : x ≤ y
  · rw [Int.min_eq_left h, Int.max_eq_right h]; exact edge_le x y w h x0 x4 y0 y4
  · rw [Int.min_eq_right (by omega), Int.max_eq_left (by omega)]; exact edge_ge x y w (by omega) x0 x4 y0 y4

/-- The edge before: 0 ahead of the first one. -/
def bef (es : List Int) : Nat → Int
  | 0 => 0
  | k + 1 => nth es k

set_option maxHeartbeats 3200000 in
theorem igk_any (p : Int) (v : Value) (es : List Int) (w : World) (h : Ints w v es) (hs : ∀ j, j < es.length → intIn (nth es j)) : Calls Try.prog 39 #[.agg #[.int .i64 p, v]] w fun e w' => e = .returned (.bool (gkB p es)) ∧ Below w.heap.size w w' := by
  obtain ⟨a, c, rfl, k1⟩ := h.opened
  have hm1 := k1.max
  have HC := Lib.hid (show ∀ k, k < es.length → ∃ G, a = some ⟨G, 0, none⟩ ∧ ∀ w', Below w.heap.size w w' → w'.cell? ⟨G, k, none⟩ = some (.int .i64 (nth es k)) from fun k hk => by
    obtain ⟨G, e1, hl, e2⟩ := k1.get k hk
    exact ⟨G, e1, fun w' hb => (hb.cell (p := ⟨G, k, none⟩) hl).trans e2⟩)
  obtain ⟨n, hn⟩ : ∃ n, es.length = n := ⟨_, rfl⟩
  have HN := Lib.hid (show ∀ q : Prop, (Gk p es → q) → ¬ q → gkB p es = false from fun q h1 h2 => gkB_false fun hc => h2 (h1 hc))
  have HY := Lib.hid (show 1 ≤ p → p ≤ 5 → GkTo p es n → gkB p es = true from by
    subst hn
    intro h2 h3 h4
    exact gkB_true.2 ⟨h2, h3, fun j hj => h4.ed j hj h2, asc_next.2 h4.asc⟩)
  have H2 := Lib.hid (show Gk p es → 1 ≤ p ∧ p ≤ 5 from fun h => ⟨h.p1, h.p5⟩)
  have H3 := Lib.hid (show Gk p es → ∀ k, k < n → Ed p (nth es k) from fun h k hk => h.ed k (by omega))
  have H4 := Lib.hid (show Gk p es → ∀ k, k < n → bef es k < nth es k from fun h k hk => by
    match k, hk with
    | 0, hk => exact (h.ed 0 (by omega)).pos
    | j + 1, hk => exact asc_next.1 h.asc j (by omega))
  have HS := Lib.hid (show ∀ k, k < n → intIn (nth es k) from fun k hk => hs k (by omega))
  rw [hn] at hm1 HC ⊢
  unfold maxLen at hm1
  clear h k1 hn hs
  have I0 := Lib.hid (InB.start w [.int .i64 p, .slice a n c] 30)
  have b0 := I0.out.box.cell 0
  have b1 := I0.out.box.cell 1
  simp at b0 b1
  by_cases g1 : p < 1
  · have HX := Lib.hid (HN.out _ H2.out (by omega))
    have d1 : decide (p < 1) = true := by simpa using g1
    go_enter Try.func39, Try.ntmps39
    go_wp2
    go_ret
    exact ⟨by rw [HX.out]; rfl, I0.out.fin⟩
  have d1 : decide (p < 1) = false := by simpa using g1
  by_cases g2 : 5 < p
  · have HX := Lib.hid (HN.out _ H2.out (by omega))
    have d2 : decide (5 < p) = true := by simpa using g2
    go_enter Try.func39, Try.ntmps39
    go_wp2
    go_ret
    exact ⟨by rw [HX.out]; rfl, I0.out.fin⟩
  have d2 : decide (5 < p) = false := by simpa using g2
  have HM := Lib.hid (show 1 ≤ p ∧ p ≤ 5 by omega)
  clear g1 g2
  go_enter Try.func39, Try.ntmps39
  go_wp2
  clear d1 d2 b0 b1
  go_loopw [3, 19] (fun y i wr => ∃ k : Nat, k ≤ n ∧ y = .int .i64 (bef es k) ∧ i = .int .i64 k ∧ Hid (GkTo p es k) ∧ Hid (InB w [.int .i64 p, .slice a n c] 30 wr)) (fun _ i _ => n - (intOf i).toNat)
  case atStart => exact ⟨0, by omega, rfl, rfl, Lib.hid ⟨fun j hj => by omega, fun j hj => by omega⟩, I0⟩
  case round =>
    obtain ⟨k, hk, rfl, rfl, hO, hI⟩ := hrel
    obtain ⟨wo, rfl⟩ : ∃ wo : World, wo = wr := ⟨_, rfl⟩
    clear I0
    have b0 := hI.out.box.cell 0
    simp at b0
    obtain ⟨y, hy⟩ : ∃ y, bef es k = y := ⟨_, rfl⟩
    have HYK := Lib.hid hy
    rw [hy]
    clear hy
    by_cases hlt : k < n
    · obtain ⟨G, rfl, hck⟩ := HC.out k hlt
      obtain ⟨x, hx⟩ : ∃ x, nth es k = x := ⟨_, rfl⟩
      have HXK := Lib.hid hx
      obtain ⟨x1, x2⟩ := HS.out k hlt
      rw [hx] at hck x1 x2
      have c1 := hck _ hI.out.fin
      obtain ⟨A, hA⟩ : ∃ A, x.tdiv 10 = A := ⟨_, rfl⟩
      obtain ⟨B, hB⟩ : ∃ B, x.tmod 10 = B := ⟨_, rfl⟩
      have t1 := ten_parts x
      have t2 := tmod_bd x 10 (by omega)
      rw [hA, hB] at t1
      rw [hB] at t2
      have HE := Lib.hid (show Ed p x ↔ (0 ≤ A ∧ A < B ∧ B < p) from by subst hA hB; exact ⟨fun h => ⟨h.a0, h.ab, h.bp⟩, fun h => ⟨h.1, h.2.1, h.2.2⟩⟩)
      have HQA := Lib.hid (show IntKind.wrap .i64 (x.tdiv 10) = A from by rw [hA]; exact IntWalk.i64_in _ (by omega))
      have HQB := Lib.hid hB
      have HT1 := Lib.hid t1
      have HT2 := Lib.hid t2
      have hlt1 : (k : Int) < (n : Int) := by omega
      clear hx hck t1 t2 hA hB x1 x2
      by_cases e1 : x ≤ y
      · have HX := Lib.hid (HN.out _ H4.out (fun h => by have := h k hlt; rw [HXK.out, HYK.out] at this; omega))
        have d1 : decide (x ≤ y) = true := by simpa using e1
        go_wp2_with fail
        refine (ends_any x A B _ HQA.out HQB.out).mono ?_
        rintro e w1 ⟨rfl, rfl⟩
        clear c1
        go_wp2
        go_ret
        exact ⟨by rw [HX.out]; rfl, hI.out.fin⟩
      have d1 : decide (x ≤ y) = false := by simpa using e1
      by_cases e2 : B ≤ A
      · have HX := Lib.hid (HN.out _ H3.out (fun h => by have := HE.out.1 (by have := h k hlt; rwa [HXK.out] at this); omega))
        have d2 : decide (B ≤ A) = true := by simpa using e2
        go_wp2_with fail
        refine (ends_any x A B _ HQA.out HQB.out).mono ?_
        rintro e w1 ⟨rfl, rfl⟩
        clear c1
        go_wp2
        go_ret
        exact ⟨by rw [HX.out]; rfl, hI.out.fin⟩
      have d2 : decide (B ≤ A) = false := by simpa using e2
      by_cases e3 : p ≤ B
      · have HX := Lib.hid (HN.out _ H3.out (fun h => by have := HE.out.1 (by have := h k hlt; rwa [HXK.out] at this); omega))
        have d3 : decide (p ≤ B) = true := by simpa using e3
        go_wp2_with fail
        refine (ends_any x A B _ HQA.out HQB.out).mono ?_
        rintro e w1 ⟨rfl, rfl⟩
        clear c1
        go_wp2
        go_ret
        exact ⟨by rw [HX.out]; rfl, hI.out.fin⟩
      have d3 : decide (p ≤ B) = false := by simpa using e3
      have HJ : Hid (0 ≤ y → GkTo p es (k + 1)) := Lib.hid fun y0 => ⟨fun j hj h1 => by
        by_cases e : j < k
        · exact hO.out.ed j e h1
        · obtain rfl : j = k := by omega
          rw [HXK.out]
          have := HT1.out
          have := HT2.out
          exact HE.out.2 (by omega), fun j hj => by
        by_cases e : j + 1 < k
        · exact hO.out.asc j e
        · obtain rfl : k = j + 1 := by omega
          have hy : nth es j = y := HYK.out
          rw [HXK.out, hy]; omega⟩
      have HY0 : Hid (0 ≤ y) := Lib.hid (by
        rw [← HYK.out]
        match k, hlt, hO with
        | 0, _, _ => exact Int.le_refl 0
        | j + 1, _, hO => have := (hO.out.ed j (by omega) HM.out.1).pos; show 0 ≤ nth es j; omega)
      have HG : Hid (GkTo p es (k + 1)) := Lib.hid (HJ.out HY0.out)
      clear HJ HY0 e1 e2 e3
      go_wp2_with fail
      refine (ends_any x A B _ HQA.out HQB.out).mono ?_
      rintro e w1 ⟨rfl, rfl⟩
      clear c1
      go_wp2
      go_roundw
      case rel => exact ⟨k + 1, by omega, by rw [show bef es (k + 1) = x from HXK.out], by go_num, HG, hI⟩
      case measure => simp [intOf]; omega
    · obtain rfl : k = n := by omega
      have HX := Lib.hid (HY.out HM.out.1 HM.out.2 hO.out)
      go_wp2
      go_ret
      exact ⟨by rw [HX.out]; rfl, hI.out.fin⟩
theorem igk_is {p : Int} {v : Value} {es : List Int} {w : World} {r : Bool} (hr : gkB p es = r) (h : Ints w v es) (hs : ∀ j, j < es.length → intIn (nth es j)) : Calls Try.prog 39 #[.agg #[.int .i64 p, v]] w fun e w' => e = .returned (.bool r) ∧ Below w.heap.size w w' := by rw [← hr]; exact igk_any p v es w h hs
end Go.Proofs.Ytlcegpmhlnilfaa
