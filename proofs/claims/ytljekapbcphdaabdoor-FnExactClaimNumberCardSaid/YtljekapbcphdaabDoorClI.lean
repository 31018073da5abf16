/- impl: elementsOk, exponentsOk, ClaimOk, lotOk, slices.Equal. -/
import Derived.Test.YtljekapbcphdaabDoorBRd
namespace Go.Proofs.YtljekapbcphdaabDoor
open Go.RowKit

theorem iel_l (g a : Int) (w : World) (G : Gr w) : Calls Tryd.prog 49 #[.int .i64 g, .int .i64 a] w fun e w' => e = .returned (.bool (elB g a)) ∧ Below w.heap.size w w' := (iel_any g a w G).mono fun _ _ ⟨he, m, hw⟩ => ⟨he, by rw [hw]; exact below_drewN (Below.refl _ _) m⟩
theorem iex_l (g n : Int) (w : World) (G : Gr w) : Calls Tryd.prog 61 #[.int .i64 g, .int .i64 n] w fun e w' => e = .returned (.bool (exB g n)) ∧ Below w.heap.size w w' := (iex_any g n w G).mono fun _ _ ⟨he, hw⟩ => ⟨he, by rw [← hw]; exact Below.refl _ _⟩
theorem ipow_l (g a n : Int) (w : World) (G : Gr w) : Calls Tryd.prog 64 #[.int .i64 g, .int .i64 a, .int .i64 n] w fun e w' => e = .returned (.int .i64 (gpow g a n)) ∧ Below w.heap.size w w' := (ipow_any g a n w G).mono fun _ _ ⟨he, m, hw⟩ => ⟨he, by rw [hw]; exact below_drewN (Below.refl _ _) m⟩
theorem itim_l (g a b : Int) (w : World) (G : Gr w) : Calls Tryd.prog 63 #[.int .i64 g, .int .i64 a, .int .i64 b] w fun e w' => e = .returned (.int .i64 (tim g a b)) ∧ Below w.heap.size w w' := (itim_any g a b w G).mono fun _ _ ⟨he, m, hw⟩ => ⟨he, by rw [hw]; exact below_drewN (Below.refl _ _) m⟩
theorem irem_l (n q : Int) (w : World) (h1 : -9999 ≤ n) (h2 : n ≤ 9999) (q1 : 1 ≤ q) (q2 : q ≤ 100) : Calls Tryd.prog 97 #[.int .i64 n, .int .i64 q] w fun e w' => e = .returned (.int .i64 (n % q)) ∧ Below w.heap.size w w' := (irem_any n q w h1 h2 q1 q2).mono fun _ _ ⟨he, hw⟩ => ⟨he, by rw [← hw]; exact Below.refl _ _⟩
theorem iback_l (g n : Int) (w : World) (G : Gr w) : Calls Tryd.prog 124 #[.int .i64 g, .int .i64 n] w fun e w' => e = .returned (.int .i64 (gback g n)) ∧ Below w.heap.size w w' := (iback_any g n w G).mono fun _ _ ⟨he, hw⟩ => ⟨he, by rw [← hw]; exact Below.refl _ _⟩

theorem ielsok_any (g : Int) (v : Value) (xs : List Int) (w : World) (G : Gr w) (h : Ints w v xs) : Calls Tryd.prog 75 #[.int .i64 g, v] w fun e w' => e = .returned (.bool (allEl g xs)) ∧ Below w.heap.size w w' := by
  obtain ⟨a, c, rfl, k1⟩ := h.opened
  obtain ⟨n, hn⟩ : ∃ n, xs.length = n := ⟨_, rfl⟩
  have hmax := k1.max
  have HG := Lib.hid (show ∀ w', Below w.heap.size w w' → Gr w' from fun w' hb => G.on hb)
  have HC := Lib.hid (show ∀ w', Below w.heap.size w w' → ∀ k, k < n → _ from fun w' hb k hk => (k1.on hb).get k (by rw [hn]; exact hk))
  have HY := Lib.hid (show (∀ j, j < n → elB g (nth xs j) = true) → allEl g xs = true from fun h => allEl_yes fun j hj => h j (by rw [← hn]; exact hj))
  have HN := Lib.hid (show ∀ k, k < n → elB g (nth xs k) = false → allEl g xs = false from fun k hk h => allEl_no (by rw [hn]; exact hk) h)
  rw [hn] at hmax ⊢
  unfold maxLen at hmax
  clear G h k1 hn
  go_enter Tryd.func75, Tryd.ntmps75
  go_wp2
  go_loopw [9] (fun i wr => ∃ k : Nat, k ≤ n ∧ i = .int .i64 k ∧ Hid (∀ j, j < k → elB g (nth xs j) = true) ∧ Hid (Below w.heap.size w wr)) (fun i _ => n - (intOf i).toNat)
  case atStart => exact ⟨0, by omega, rfl, Lib.hid (fun j hj => by omega), Lib.hid (Below.refl _ _)⟩
  case round =>
    obtain ⟨k, hk, rfl, hj, hb⟩ := hrel
    obtain ⟨wo, rfl⟩ : ∃ wo : World, wo = wr := ⟨_, rfl⟩
    by_cases hlt : k < n
    · obtain ⟨A, rfl, _, hc⟩ := HC.out _ hb.out k hlt
      go_wp2_with fail
      refine (iel_l g (nth xs k) _ (HG.out _ hb.out)).mono ?_
      rintro e w2 ⟨rfl, hb2⟩
      have B2 := Lib.hid (Below.on hb.out hb2)
      clear hc hb hb2
      cases he : elB g (nth xs k)
      · have HX := Lib.hid (HN.out k hlt he)
        go_wp2
        go_ret
        exact ⟨by rw [HX.out]; rfl, B2.out⟩
      · have HJ : Hid (∀ j, j < k + 1 → elB g (nth xs j) = true) := Lib.hid (fun j hj' => by
          by_cases e : j < k
          · exact hj.out j e
          · obtain rfl : j = k := by omega
            exact he)
        clear hj
        go_wp2
        go_roundw
        case rel => exact ⟨k + 1, by omega, by go_num, HJ, B2⟩
        case measure => simp [intOf]; omega
    · obtain rfl : k = n := by omega
      have HX := Lib.hid (HY.out hj.out)
      go_wp2
      go_ret
      exact ⟨by rw [HX.out]; rfl, hb.out⟩

theorem iexsok_any (g : Int) (v : Value) (xs : List Int) (w : World) (G : Gr w) (h : Ints w v xs) : Calls Tryd.prog 98 #[.int .i64 g, v] w fun e w' => e = .returned (.bool (allEx g xs)) ∧ Below w.heap.size w w' := by
  obtain ⟨a, c, rfl, k1⟩ := h.opened
  obtain ⟨n, hn⟩ : ∃ n, xs.length = n := ⟨_, rfl⟩
  have hmax := k1.max
  have HG := Lib.hid (show ∀ w', Below w.heap.size w w' → Gr w' from fun w' hb => G.on hb)
  have HC := Lib.hid (show ∀ w', Below w.heap.size w w' → ∀ k, k < n → _ from fun w' hb k hk => (k1.on hb).get k (by rw [hn]; exact hk))
  have HY := Lib.hid (show (∀ j, j < n → exB g (nth xs j) = true) → allEx g xs = true from fun h => allEx_yes fun j hj => h j (by rw [← hn]; exact hj))
  have HN := Lib.hid (show ∀ k, k < n → exB g (nth xs k) = false → allEx g xs = false from fun k hk h => allEx_no (by rw [hn]; exact hk) h)
  rw [hn] at hmax ⊢
  unfold maxLen at hmax
  clear G h k1 hn
  go_enter Tryd.func98, Tryd.ntmps98
  go_wp2
  go_loopw [9] (fun i wr => ∃ k : Nat, k ≤ n ∧ i = .int .i64 k ∧ Hid (∀ j, j < k → exB g (nth xs j) = true) ∧ Hid (Below w.heap.size w wr)) (fun i _ => n - (intOf i).toNat)
  case atStart => exact ⟨0, by omega, rfl, Lib.hid (fun j hj => by omega), Lib.hid (Below.refl _ _)⟩
  case round =>
    obtain ⟨k, hk, rfl, hj, hb⟩ := hrel
    obtain ⟨wo, rfl⟩ : ∃ wo : World, wo = wr := ⟨_, rfl⟩
    by_cases hlt : k < n
    · obtain ⟨A, rfl, _, hc⟩ := HC.out _ hb.out k hlt
      go_wp2_with fail
      refine (iex_l g (nth xs k) _ (HG.out _ hb.out)).mono ?_
      rintro e w2 ⟨rfl, hb2⟩
      have B2 := Lib.hid (Below.on hb.out hb2)
      clear hc hb hb2
      cases he : exB g (nth xs k)
      · have HX := Lib.hid (HN.out k hlt he)
        go_wp2
        go_ret
        exact ⟨by rw [HX.out]; rfl, B2.out⟩
      · have HJ : Hid (∀ j, j < k + 1 → exB g (nth xs j) = true) := Lib.hid (fun j hj' => by
          by_cases e : j < k
          · exact hj.out j e
          · obtain rfl : j = k := by omega
            exact he)
        clear hj
        go_wp2
        go_roundw
        case rel => exact ⟨k + 1, by omega, by go_num, HJ, B2⟩
        case measure => simp [intOf]; omega
    · obtain rfl : k = n := by omega
      have HX := Lib.hid (HY.out hj.out)
      go_wp2
      go_ret
      exact ⟨by rw [HX.out]; rfl, hb.out⟩

/-- The lists of a relation in memory. -/
structure Cw (w : World) (rv mv : Value) (rows : List (List Int)) (makes : List Int) : Prop where
  rows : IntSS w rv rows
  makes : Ints w mv makes
theorem Cw.on {w w' : World} {rv mv : Value} {rows : List (List Int)} {makes : List Int} (h : Cw w rv mv rows makes) (hb : Below w.heap.size w w') : Cw w' rv mv rows makes := ⟨h.rows.on hb, h.makes.below hb⟩
abbrev clV (g : Int) (rv mv : Value) : Value := .agg #[.int .i64 g, rv, mv]

/-- Rows of the same length as the first one, of elements, so far. -/
def RowsTo (g : Int) (rows : List (List Int)) (k : Nat) : Prop := ∀ j, j < k → (row rows j).length = unk rows ∧ allEl g (row rows j) = true

set_option maxHeartbeats 3200000 in
theorem iclaim_any (g : Int) (rv mv : Value) (rows : List (List Int)) (makes : List Int) (w : World) (G : Gr w) (h : Cw w rv mv rows makes) :
    Calls Tryd.prog 30 #[.agg #[.int .i64 g, rv, mv]] w fun e w' => e = .returned (.bool (clB g rows makes)) ∧ Below w.heap.size w w' := by
  have HH := Lib.hid h
  obtain ⟨a, c, rfl, k1⟩ := h.rows.opened
  obtain ⟨b, d, rfl, k2⟩ := h.makes.opened
  have hm1 := k1.max
  have hm2 := k2.max
  have HG := Lib.hid (show ∀ w', Below w.heap.size w w' → Gr w' from fun w' hb => G.on hb)
  have HC := Lib.hid (show ∀ w', Below w.heap.size w w' → ∀ k, k < rows.length → _ from fun w' hb k hk => (k1.on hb).get k hk)
  have HM := Lib.hid (show ∀ w', Below w.heap.size w w' → Ints w' _ makes from fun w' hb => h.makes.below hb)
  obtain ⟨n, hn⟩ : ∃ n, rows.length = n := ⟨_, rfl⟩
  obtain ⟨m, hm⟩ : ∃ m, makes.length = m := ⟨_, rfl⟩
  obtain ⟨u, hu⟩ : ∃ u, unk rows = u := ⟨_, rfl⟩
  have HN := Lib.hid (show ∀ p : Prop, (Cl g rows makes → p) → ¬ p → clB g rows makes = false from fun p h1 h2 => clB_false fun hc => h2 (h1 hc))
  have HY := Lib.hid (show 1 ≤ n → n ≤ 3 → m = n → 1 ≤ u → u ≤ 2 → RowsTo g rows n → 0 ≤ g → g < 4 → clB g rows makes = allEl g makes from by
    subst hn hm hu
    intro h1 h2 h3 h4 h5 h6 h7 h8
    cases he : allEl g makes
    · exact clB_false fun hc => by rw [hc.makes] at he; cases he
    · exact clB_true.2 ⟨h7, h8, h1, h2, h3, h4, h5, h6, he⟩)
  have H1 := Lib.hid (show Cl g rows makes → 1 ≤ n from fun h => by rw [← hn]; exact h.r1)
  have H3 := Lib.hid (show Cl g rows makes → n ≤ 3 from fun h => by rw [← hn]; exact h.r3)
  have HE := Lib.hid (show Cl g rows makes → m = n from fun h => by rw [← hn, ← hm]; exact h.m)
  have U1 := Lib.hid (show Cl g rows makes → 1 ≤ u from fun h => by rw [← hu]; exact h.u1)
  have U2 := Lib.hid (show Cl g rows makes → u ≤ 2 from fun h => by rw [← hu]; exact h.u2)
  have UR := Lib.hid (show Cl g rows makes → ∀ j, j < n → (row rows j).length = u ∧ allEl g (row rows j) = true from fun h j hj => by rw [← hu]; exact h.row j (by rw [hn]; exact hj))
  have HU0 := Lib.hid (show (row rows 0).length = u from hu)
  have HU := Lib.hid hu
  rw [hn] at HC hm1 ⊢
  rw [hm] at hm2 ⊢
  rw [hm] at HM
  unfold maxLen at hm1 hm2
  clear G h k1 k2 hn hm hu HH
  have B0 := Lib.hid (below_grow w (.cells #[.int .i64 g, .slice a n c, .slice b m d] 26))
  by_cases c1 : n < 1
  · have HX := Lib.hid (HN.out _ H1.out (by omega))
    go_enter Tryd.func30, Tryd.ntmps30
    go_wp2
    go_ret
    exact ⟨by rw [HX.out]; rfl, B0.out⟩
  by_cases c2 : 3 < n
  · have HX := Lib.hid (HN.out _ H3.out (by omega))
    go_enter Tryd.func30, Tryd.ntmps30
    go_wp2
    go_ret
    exact ⟨by rw [HX.out]; rfl, B0.out⟩
  by_cases c3 : m = n
  case neg =>
    have HX := Lib.hid (HN.out _ HE.out c3)
    have hd : ((m : Int) != (n : Int)) = true := by rw [bne_iff_ne]; omega
    go_enter Tryd.func30, Tryd.ntmps30
    go_wp2
    go_ret
    exact ⟨by rw [HX.out]; rfl, B0.out⟩
  subst c3
  have hd : ((m : Int) != (m : Int)) = false := by simp
  obtain ⟨G0, u0, rfl, _, hc0, hi0⟩ := HC.out _ B0.out 0 (by omega)
  obtain ⟨a0, c0, rfl, _⟩ := hi0.opened
  rw [HU0.out] at hc0
  clear hi0
  by_cases c4 : u < 1
  · have HX := Lib.hid (HN.out _ U1.out (by omega))
    go_enter Tryd.func30, Tryd.ntmps30
    go_wp2
    go_ret
    exact ⟨by rw [HX.out]; rfl, B0.out⟩
  by_cases c5 : 2 < u
  · have HX := Lib.hid (HN.out _ U2.out (by omega))
    go_enter Tryd.func30, Tryd.ntmps30
    go_wp2
    go_ret
    exact ⟨by rw [HX.out]; rfl, B0.out⟩
  go_enter Tryd.func30, Tryd.ntmps30
  go_wp2
  clear hc0 hd
  go_loopw [39] (fun i wr => ∃ k : Nat, k ≤ m ∧ i = .int .i64 k ∧ Hid (RowsTo g rows k) ∧ Hid (Below (w.alloc (.cells #[.int .i64 g, .slice (some ⟨G0, 0, none⟩) m c, .slice b m d] 26)).heap.size (w.alloc (.cells #[.int .i64 g, .slice (some ⟨G0, 0, none⟩) m c, .slice b m d] 26)) wr)) (fun i _ => m - (intOf i).toNat)
  case atStart => exact ⟨0, by omega, rfl, Lib.hid (fun j hj => by omega), Lib.hid (Below.refl _ _)⟩
  case round =>
    obtain ⟨k, hk, rfl, hj, hb⟩ := hrel
    obtain ⟨wo, rfl⟩ : ∃ wo : World, wo = wr := ⟨_, rfl⟩
    obtain ⟨P1, L1⟩ := boxes1 (P := [.int .i64 g, .slice (some ⟨G0, 0, none⟩) m c, .slice b m d]) hb.out
    have b0 := P1.cell 0
    have b2 := P1.cell 2
    simp at b0 b2
    have HL := Lib.hid L1
    clear P1 L1
    by_cases hlt : k < m
    · obtain ⟨G1, x, e1, _, hc, hi⟩ := HC.out _ HL.out k hlt
      cases e1
      obtain ⟨ax, cx, rfl, _⟩ := hi.opened
      have HI := Lib.hid hi
      obtain ⟨l, hl⟩ : ∃ l, (row rows k).length = l := ⟨_, rfl⟩
      have HLL := Lib.hid hl
      have HI' : Hid (Ints wo (.slice ax l cx) (row rows k)) := Lib.hid (by rw [← hl]; exact hi)
      rw [hl] at hc
      clear hi HI hl
      by_cases hlu : l = u
      · have hd : ((l : Int) != (u : Int)) = false := by rw [hlu]; simp
        have HD := Lib.hid hlu
        clear hlu
        go_wp2_with fail
        refine (ielsok_any g _ (row rows k) _ (HG.out _ HL.out) HI'.out).mono ?_
        rintro e w2 ⟨rfl, hb2⟩
        have B2 := Lib.hid (hb.out.trans (hb2.mono hb.out.size))
        have L2 := Lib.hid (Below.on HL.out hb2)
        clear hc hb hb2 b0 b2 HI'
        cases he : allEl g (row rows k)
        · have HX := Lib.hid (HN.out _ UR.out (fun h => by have := (h k hlt).2; rw [he] at this; cases this))
          go_wp2
          go_ret
          exact ⟨by rw [HX.out]; rfl, L2.out⟩
        · have HJ : Hid (RowsTo g rows (k + 1)) := Lib.hid (fun j hj' => by
            by_cases e : j < k
            · exact hj.out j e
            · obtain rfl : j = k := by omega
              exact ⟨by rw [HLL.out, HD.out, HU.out], he⟩)
          clear hj
          go_wp2
          go_roundw
          case rel => exact ⟨k + 1, by omega, by go_num, HJ, B2⟩
          case measure => simp [intOf]; omega
      · have HX := Lib.hid (HN.out _ UR.out (fun h => hlu (by rw [← HLL.out]; exact (h k hlt).1)))
        have hd : ((l : Int) != (u : Int)) = true := by rw [bne_iff_ne]; omega
        clear HI'
        go_wp2
        go_ret
        exact ⟨by rw [HX.out]; rfl, HL.out⟩
    · obtain rfl : k = m := by omega
      go_wp2_with fail
      refine (ielsok_any g _ makes _ (HG.out _ HL.out) (HM.out _ HL.out)).mono ?_
      rintro e w2 ⟨rfl, hb2⟩
      have L2 := Lib.hid (Below.on HL.out hb2)
      clear hb hb2 b0 b2
      have HX : Hid (clB g rows makes = allEl g makes) := Lib.hid (by
        by_cases hg : 0 ≤ g ∧ g < 4
        · exact HY.out (by omega) (by omega) (by simp) (by omega) (by omega) hj.out hg.1 hg.2
        · have h0 : allEl g (row rows 0) = false := allEl_no (j := 0) (by rw [HU0.out]; omega) (elB_none hg _)
          rw [(hj.out 0 (by omega)).2] at h0; cases h0)
      go_wp2
      go_ret
      exact ⟨by rw [HX.out]; rfl, L2.out⟩
end Go.Proofs.YtljekapbcphdaabDoor
