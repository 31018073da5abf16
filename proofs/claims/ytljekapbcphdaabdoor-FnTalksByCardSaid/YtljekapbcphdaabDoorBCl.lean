/- ClI, ClJ, MkI, in one text. -/
import Derived.Test.YtljekapbcphdaabDoorBRd
import Derived.Test.YtljekapbcphdaabDoorBTalk
/- impl: elementsOk, exponentsOk, ClaimOk, lotOk, slices.Equal. -/
namespace Go.Proofs.YtljekapbcphdaabDoor
open Go.RowKit

theorem iel_l (g a : Int) (w : World) (G : Gr w) : Calls Tryd.prog 49 #[.int .i64 g, .int .i64 a] w fun e w' => e = .returned (.bool (elB g a)) ∧ Below w.heap.size w w' := (iel_any g a w G).mono fun _ _ ⟨he, m, hw⟩ => ⟨he, by rw [hw]; exact below_drewN (Below.refl _ _) m⟩
theorem iex_l (g n : Int) (w : World) (G : Gr w) : Calls Tryd.prog 61 #[.int .i64 g, .int .i64 n] w fun e w' => e = .returned (.bool (exB g n)) ∧ Below w.heap.size w w' := (iex_any g n w G).mono fun _ _ ⟨he, hw⟩ => ⟨he, by rw [← hw]; exact Below.refl _ _⟩
theorem ipow_l (g a n : Int) (w : World) (G : Gr w) : Calls Tryd.prog 64 #[.int .i64 g, .int .i64 a, .int .i64 n] w fun e w' => e = .returned (.int .i64 (gpow g a n)) ∧ Below w.heap.size w w' := (ipow_any g a n w G).mono fun _ _ ⟨he, m, hw⟩ => ⟨he, by rw [hw]; exact below_drewN (Below.refl _ _) m⟩
theorem itim_l (g a b : Int) (w : World) (G : Gr w) : Calls Tryd.prog 63 #[.int .i64 g, .int .i64 a, .int .i64 b] w fun e w' => e = .returned (.int .i64 (tim g a b)) ∧ Below w.heap.size w w' := (itim_any g a b w G).mono fun _ _ ⟨he, m, hw⟩ => ⟨he, by rw [hw]; exact below_drewN (Below.refl _ _) m⟩
theorem irem_l (n q : Int) (w : World) (h1 : -9999 ≤ n) (h2 : n ≤ 9999) (q1 : 1 ≤ q) (q2 : q ≤ 100) : Calls Tryd.prog 97 #[.int .i64 n, .int .i64 q] w fun e w' => e = .returned (.int .i64 (n % q)) ∧ Below w.heap.size w w' := (irem_any n q w h1 h2 q1 q2).mono fun _ _ ⟨he, hw⟩ => ⟨he, by rw [← hw]; exact Below.refl _ _⟩
theorem iback_l (g n : Int) (w : World) (G : Gr w) : Calls Tryd.prog 124 #[.int .i64 g, .int .i64 n] w fun e w' => e = .returned (.int .i64 (gback g n)) ∧ Below w.heap.size w w' := (iback_any g n w G).mono fun _ _ ⟨he, hw⟩ => ⟨he, by rw [← hw]; exact Below.refl _ _⟩

theorem ielsok_any (g : Int) (v : Value) (xs : List Int) (w : World) (G : Gr w) (h : Ints w v xs) : Calls Tryd.prog 75 #[.int .i64 g, v] w fun e w' => e = .returned (.bool (allEl g xs)) ∧ Below w.heap.size w w' := by
  obtain ⟨a, c, rfl, k1⟩ := h.opened
  obtain ⟨n, hn⟩ : ∃ n, xs.length = n := ⟨_, rfl⟩
  have hmax := k1.max
  have HG := Lib.hid (show ∀ w', Below w.heap.size w w' → Gr w' from fun w' hb => G.on hb)
  have HC := Lib.hid (show ∀ w', Below w.heap.size w w' → ∀ k, k < n → _ from fun w' hb k hk => (k1.on hb).get k (by rw [hn]; exact hk))
  have HY := Lib.hid (show (∀ j, j < n → elB g (nth xs j) = true) → allEl g xs = true from fun h => allEl_yes fun j hj => h j (by rw [← hn]; exact hj))
  have HN := Lib.hid (show ∀ k, k < n → elB g (nth xs k) = false → allEl g xs = false from fun k hk h => allEl_no (by rw [hn]; exact hk) h)
  rw [hn] at hmax ⊢
  unfold maxLen at hmax
  clear G h k1 hn
  go_enter Tryd.func75, Tryd.ntmps75
  go_wp2
  go_loopw [9] (fun i wr => ∃ k : Nat, k ≤ n ∧ i = .int .i64 k ∧ Hid (∀ j, j < k → elB g (nth xs j) = true) ∧ Hid (Below w.heap.size w wr)) (fun i _ => n - (intOf i).toNat)
  case atStart => exact ⟨0, by omega, rfl, Lib.hid (fun j hj => by omega), Lib.hid (Below.refl _ _)⟩
  case round =>
    obtain ⟨k, hk, rfl, hj, hb⟩ := hrel
    obtain ⟨wo, rfl⟩ : ∃ wo : World, wo = wr := ⟨_, rfl⟩
    by_cases hlt : k < n
    · obtain ⟨A, rfl, _, hc⟩ := HC.out _ hb.out k hlt
      go_wp2_with fail
      refine (iel_l g (nth xs k) _ (HG.out _ hb.out)).mono ?_
      rintro e w2 ⟨rfl, hb2⟩
      have B2 := Lib.hid (Below.on hb.out hb2)
      clear hc hb hb2
      cases he : elB g (nth xs k)
      · have HX := Lib.hid (HN.out k hlt he)
        go_wp2
        go_ret
        exact ⟨by rw [HX.out]; rfl, B2.out⟩
      · have HJ : Hid (∀ j, j < k + 1 → elB g (nth xs j) = true) := Lib.hid (fun j hj' => by
          by_cases e : j < k
          · exact hj.out j e
          · obtain rfl : j = k := by omega
            exact he)
        clear hj
        go_wp2
        go_roundw
        case rel => exact ⟨k + 1, by omega, by go_num, HJ, B2⟩
        case measure => simp [intOf]; omega
    · obtain rfl : k = n := by omega
      have HX := Lib.hid (HY.out hj.out)
      go_wp2
      go_ret
      exact ⟨by rw [HX.out]; rfl, hb.out⟩

theorem iexsok_any (g : Int) (v : Value) (xs : List Int) (w : World) (G : Gr w) (h : Ints w v xs) : Calls Tryd.prog 98 #[.int .i64 g, v] w fun e w' => e = .returned (.bool (allEx g xs)) ∧ Below w.heap.size w w' := by
  obtain ⟨a, c, rfl, k1⟩ := h.opened
  obtain ⟨n, hn⟩ : ∃ n, xs.length = n := ⟨_, rfl⟩
  have hmax := k1.max
  have HG := Lib.hid (show ∀ w', Below w.heap.size w w' → Gr w' from fun w' hb => G.on hb)
  have HC := Lib.hid (show ∀ w', Below w.heap.size w w' → ∀ k, k < n → _ from fun w' hb k hk => (k1.on hb).get k (by rw [hn]; exact hk))
  have HY := Lib.hid (show (∀ j, j < n → exB g (nth xs j) = true) → allEx g xs = true from fun h => allEx_yes fun j hj => h j (by rw [← hn]; exact hj))
  have HN := Lib.hid (show ∀ k, k < n → exB g (nth xs k) = false → allEx g xs = false from fun k hk h => allEx_no (by rw [hn]; exact hk) h)
  rw [hn] at hmax ⊢
  unfold maxLen at hmax
  clear G h k1 hn
  go_enter Tryd.func98, Tryd.ntmps98
  go_wp2
  go_loopw [9] (fun i wr => ∃ k : Nat, k ≤ n ∧ i = .int .i64 k ∧ Hid (∀ j, j < k → exB g (nth xs j) = true) ∧ Hid (Below w.heap.size w wr)) (fun i _ => n - (intOf i).toNat)
  case atStart => exact ⟨0, by omega, rfl, Lib.hid (fun j hj => by omega), Lib.hid (Below.refl _ _)⟩
  case round =>
    obtain ⟨k, hk, rfl, hj, hb⟩ := hrel
    obtain ⟨wo, rfl⟩ : ∃ wo : World, wo = wr := ⟨_, rfl⟩
    by_cases hlt : k < n
    · obtain ⟨A, rfl, _, hc⟩ := HC.out _ hb.out k hlt
      go_wp2_with fail
      refine (iex_l g (nth xs k) _ (HG.out _ hb.out)).mono ?_
      rintro e w2 ⟨rfl, hb2⟩
      have B2 := Lib.hid (Below.on hb.out hb2)
      clear hc hb hb2
      cases he : exB g (nth xs k)
      · have HX := Lib.hid (HN.out k hlt he)
        go_wp2
        go_ret
        exact ⟨by rw [HX.out]; rfl, B2.out⟩
      · have HJ : Hid (∀ j, j < k + 1 → exB g (nth xs j) = true) := Lib.hid (fun j hj' => by
          by_cases e : j < k
          · exact hj.out j e
          · obtain rfl : j = k := by omega
            exact he)
        clear hj
        go_wp2
        go_roundw
        case rel => exact ⟨k + 1, by omega, by go_num, HJ, B2⟩
        case measure => simp [intOf]; omega
    · obtain rfl : k = n := by omega
      have HX := Lib.hid (HY.out hj.out)
      go_wp2
      go_ret
      exact ⟨by rw [HX.out]; rfl, hb.out⟩

/-- The lists of a relation in memory. -/
structure Cw (w : World) (rv mv : Value) (rows : List (List Int)) (makes : List Int) : Prop where
  rows : IntSS w rv rows
  makes : Ints w mv makes
theorem Cw.on {w w' : World} {rv mv : Value} {rows : List (List Int)} {makes : List Int} (h : Cw w rv mv rows makes) (hb : Below w.heap.size w w') : Cw w' rv mv rows makes := ⟨h.rows.on hb, h.makes.below hb⟩
abbrev clV (g : Int) (rv mv : Value) : Value := .agg #[.int .i64 g, rv, mv]

/-- Rows of the same length as the first one, of elements, so far. -/
def RowsTo (g : Int) (rows : List (List Int)) (k : Nat) : Prop := ∀ j, j < k → (row rows j).length = unk rows ∧ allEl g (row rows j) = true

set_option maxHeartbeats 3200000 in
theorem iclaim_any (g : Int) (rv mv : Value) (rows : List (List Int)) (makes : List Int) (w : World) (G : Gr w) (h : Cw w rv mv rows makes) :
    Calls Tryd.prog 30 #[.agg #[.int .i64 g, rv, mv]] w fun e w' => e = .returned (.bool (clB g rows makes)) ∧ Below w.heap.size w w' := by
  have HH := Lib.hid h
  obtain ⟨a, c, rfl, k1⟩ := h.rows.opened
  obtain ⟨b, d, rfl, k2⟩ := h.makes.opened
  have hm1 := k1.max
  have hm2 := k2.max
  have HG := Lib.hid (show ∀ w', Below w.heap.size w w' → Gr w' from fun w' hb => G.on hb)
  have HC := Lib.hid (show ∀ w', Below w.heap.size w w' → ∀ k, k < rows.length → _ from fun w' hb k hk => (k1.on hb).get k hk)
  have HM := Lib.hid (show ∀ w', Below w.heap.size w w' → Ints w' _ makes from fun w' hb => h.makes.below hb)
  obtain ⟨n, hn⟩ : ∃ n, rows.length = n := ⟨_, rfl⟩
  obtain ⟨m, hm⟩ : ∃ m, makes.length = m := ⟨_, rfl⟩
  obtain ⟨u, hu⟩ : ∃ u, unk rows = u := ⟨_, rfl⟩
  have HN := Lib.hid (show ∀ p : Prop, (Cl g rows makes → p) → ¬ p → clB g rows makes = false from fun p h1 h2 => clB_false fun hc => h2 (h1 hc))
  have HY := Lib.hid (show 1 ≤ n → n ≤ 3 → m = n → 1 ≤ u → u ≤ 2 → RowsTo g rows n → 0 ≤ g → g < 4 → clB g rows makes = allEl g makes from by
    subst hn hm hu
    intro h1 h2 h3 h4 h5 h6 h7 h8
    cases he : allEl g makes
    · exact clB_false fun hc => by rw [hc.makes] at he; cases he
    · exact clB_true.2 ⟨h7, h8, h1, h2, h3, h4, h5, h6, he⟩)
  have H1 := Lib.hid (show Cl g rows makes → 1 ≤ n from fun h => by rw [← hn]; exact h.r1)
  have H3 := Lib.hid (show Cl g rows makes → n ≤ 3 from fun h => by rw [← hn]; exact h.r3)
  have HE := Lib.hid (show Cl g rows makes → m = n from fun h => by rw [← hn, ← hm]; exact h.m)
  have U1 := Lib.hid (show Cl g rows makes → 1 ≤ u from fun h => by rw [← hu]; exact h.u1)
  have U2 := Lib.hid (show Cl g rows makes → u ≤ 2 from fun h => by rw [← hu]; exact h.u2)
  have UR := Lib.hid (show Cl g rows makes → ∀ j, j < n → (row rows j).length = u ∧ allEl g (row rows j) = true from fun h j hj => by rw [← hu]; exact h.row j (by rw [hn]; exact hj))
  have HU0 := Lib.hid (show (row rows 0).length = u from hu)
  have HU := Lib.hid hu
  rw [hn] at HC hm1 ⊢
  rw [hm] at hm2 ⊢
  rw [hm] at HM
  unfold maxLen at hm1 hm2
  clear G h k1 k2 hn hm hu HH
  have B0 := Lib.hid (below_grow w (.cells #[.int .i64 g, .slice a n c, .slice b m d] 26))
  by_cases c1 : n < 1
  · have HX := Lib.hid (HN.out _ H1.out (by omega))
    go_enter Tryd.func30, Tryd.ntmps30
    go_wp2
    go_ret
    exact ⟨by rw [HX.out]; rfl, B0.out⟩
  by_cases c2 : 3 < n
  · have HX := Lib.hid (HN.out _ H3.out (by omega))
    go_enter Tryd.func30, Tryd.ntmps30
    go_wp2
    go_ret
    exact ⟨by rw [HX.out]; rfl, B0.out⟩
  by_cases c3 : m = n
  case neg =>
    have HX := Lib.hid (HN.out _ HE.out c3)
    have hd : ((m : Int) != (n : Int)) = true := by rw [bne_iff_ne]; omega
    go_enter Tryd.func30, Tryd.ntmps30
    go_wp2
    go_ret
    exact ⟨by rw [HX.out]; rfl, B0.out⟩
  subst c3
  have hd : ((m : Int) != (m : Int)) = false := by simp
  obtain ⟨G0, u0, rfl, _, hc0, hi0⟩ := HC.out _ B0.out 0 (by omega)
  obtain ⟨a0, c0, rfl, _⟩ := hi0.opened
  rw [HU0.out] at hc0
  clear hi0
  by_cases c4 : u < 1
  · have HX := Lib.hid (HN.out _ U1.out (by omega))
    go_enter Tryd.func30, Tryd.ntmps30
    go_wp2
    go_ret
    exact ⟨by rw [HX.out]; rfl, B0.out⟩
  by_cases c5 : 2 < u
  · have HX := Lib.hid (HN.out _ U2.out (by omega))
    go_enter Tryd.func30, Tryd.ntmps30
    go_wp2
    go_ret
    exact ⟨by rw [HX.out]; rfl, B0.out⟩
  go_enter Tryd.func30, Tryd.ntmps30
  go_wp2
  clear hc0 hd
  go_loopw [39] (fun i wr => ∃ k : Nat, k ≤ m ∧ i = .int .i64 k ∧ Hid (RowsTo g rows k) ∧ Hid (Below (w.alloc (.cells #[.int .i64 g, .slice (some ⟨G0, 0, none⟩) m c, .slice b m d] 26)).heap.size (w.alloc (.cells #[.int .i64 g, .slice (some ⟨G0, 0, none⟩) m c, .slice b m d] 26)) wr)) (fun i _ => m - (intOf i).toNat)
  case atStart => exact ⟨0, by omega, rfl, Lib.hid (fun j hj => by omega), Lib.hid (Below.refl _ _)⟩
  case round =>
    obtain ⟨k, hk, rfl, hj, hb⟩ := hrel
    obtain ⟨wo, rfl⟩ : ∃ wo : World, wo = wr := ⟨_, rfl⟩
    obtain ⟨P1, L1⟩ := boxes1 (P := [.int .i64 g, .slice (some ⟨G0, 0, none⟩) m c, .slice b m d]) hb.out
    have b0 := P1.cell 0
    have b2 := P1.cell 2
    simp at b0 b2
    have HL := Lib.hid L1
    clear P1 L1
    by_cases hlt : k < m
    · obtain ⟨G1, x, e1, _, hc, hi⟩ := HC.out _ HL.out k hlt
      cases e1
      obtain ⟨ax, cx, rfl, _⟩ := hi.opened
      have HI := Lib.hid hi
      obtain ⟨l, hl⟩ : ∃ l, (row rows k).length = l := ⟨_, rfl⟩
      have HLL := Lib.hid hl
      have HI' : Hid (Ints wo (.slice ax l cx) (row rows k)) := Lib.hid (by rw [← hl]; exact hi)
      rw [hl] at hc
      clear hi HI hl
      by_cases hlu : l = u
      · have hd : ((l : Int) != (u : Int)) = false := by rw [hlu]; simp
        have HD := Lib.hid hlu
        clear hlu
        go_wp2_with fail
        refine (ielsok_any g _ (row rows k) _ (HG.out _ HL.out) HI'.out).mono ?_
        rintro e w2 ⟨rfl, hb2⟩
        have B2 := Lib.hid (hb.out.trans (hb2.mono hb.out.size))
        have L2 := Lib.hid (Below.on HL.out hb2)
        clear hc hb hb2 b0 b2 HI'
        cases he : allEl g (row rows k)
        · have HX := Lib.hid (HN.out _ UR.out (fun h => by have := (h k hlt).2; rw [he] at this; cases this))
          go_wp2
          go_ret
          exact ⟨by rw [HX.out]; rfl, L2.out⟩
        · have HJ : Hid (RowsTo g rows (k + 1)) := Lib.hid (fun j hj' => by
            by_cases e : j < k
            · exact hj.out j e
            · obtain rfl : j = k := by omega
              exact ⟨by rw [HLL.out, HD.out, HU.out], he⟩)
          clear hj
          go_wp2
          go_roundw
          case rel => exact ⟨k + 1, by omega, by go_num, HJ, B2⟩
          case measure => simp [intOf]; omega
      · have HX := Lib.hid (HN.out _ UR.out (fun h => hlu (by rw [← HLL.out]; exact (h k hlt).1)))
        have hd : ((l : Int) != (u : Int)) = true := by rw [bne_iff_ne]; omega
        clear HI'
        go_wp2
        go_ret
        exact ⟨by rw [HX.out]; rfl, HL.out⟩
    · obtain rfl : k = m := by omega
      go_wp2_with fail
      refine (ielsok_any g _ makes _ (HG.out _ HL.out) (HM.out _ HL.out)).mono ?_
      rintro e w2 ⟨rfl, hb2⟩
      have L2 := Lib.hid (Below.on HL.out hb2)
      clear hb hb2 b0 b2
      have HX : Hid (clB g rows makes = allEl g makes) := Lib.hid (by
        by_cases hg : 0 ≤ g ∧ g < 4
        · exact HY.out (by omega) (by omega) (by simp) (by omega) (by omega) hj.out hg.1 hg.2
        · have h0 : allEl g (row rows 0) = false := allEl_no (j := 0) (by rw [HU0.out]; omega) (elB_none hg _)
          rw [(hj.out 0 (by omega)).2] at h0; cases h0)
      go_wp2
      go_ret
      exact ⟨by rw [HX.out]; rfl, L2.out⟩
end Go.Proofs.YtljekapbcphdaabDoor

/- impl: lotOk, slices.Equal, RowsMake, Solves. -/
namespace Go.Proofs.YtljekapbcphdaabDoor
open Go.RowKit

theorem Cw.row0 {w : World} {rv mv : Value} {g : Int} {rows : List (List Int)} {makes : List Int} (h : Cw w rv mv rows makes) (hc : Cl g rows makes) :
    ∃ G c a0 c0, rv = .slice (some ⟨G, 0, none⟩) rows.length c ∧ ∀ w', Below w.heap.size w w' → w'.cell? ⟨G, 0, none⟩ = some (.slice a0 (unk rows) c0) := by
  obtain ⟨a, c, rfl, k1⟩ := h.rows.opened
  obtain ⟨G, u, rfl, hl, hcell, hi⟩ := k1.get 0 hc.r1
  obtain ⟨a0, c0, rfl, _⟩ := hi.opened
  exact ⟨G, c, a0, c0, rfl, fun w' hb => (hb.cell (p := ⟨G, 0, none⟩) hl).trans hcell⟩

theorem ilot_any (g : Int) (rv mv ev : Value) (rows : List (List Int)) (makes es : List Int) (w : World) (G : Gr w) (h : Cw w rv mv rows makes) (he : Ints w ev es) :
    Calls Tryd.prog 69 #[.agg #[.int .i64 g, rv, mv], ev] w fun e w' => e = .returned (.bool (lotB g rows makes es)) ∧ Below w.heap.size w w' := by
  obtain ⟨ea, ec, rfl, k3⟩ := he.opened
  have HH := Lib.hid h
  have HE := Lib.hid he
  have HG := Lib.hid G
  clear h he G
  have hem := k3.max
  unfold maxLen at hem
  obtain ⟨n, hn⟩ : ∃ n, es.length = n := ⟨_, rfl⟩
  have HN := Lib.hid hn
  rw [hn] at hem HE ⊢
  have B0 := Lib.hid (below_grow w (.cells #[.int .i64 g, rv, mv] 26))
  clear k3 hn
  cases hc : clB g rows makes
  · have HX := Lib.hid (show lotB g rows makes es = false by unfold lotB; rw [hc]; rfl)
    go_enter Tryd.func69, Tryd.ntmps69
    go_wp2_with fail
    refine (iclaim_any g rv mv rows makes _ (HG.out.on B0.out) (HH.out.on B0.out)).mono ?_
    rintro e w1 ⟨rfl, hb1⟩
    rw [hc]
    have L1 := Lib.hid (Below.on B0.out hb1)
    go_wp2
    go_ret
    exact ⟨by rw [HX.out]; rfl, L1.out⟩
  · have hcl := clB_true.1 hc
    obtain ⟨G0, c, a0, c0, rfl, hcell⟩ := HH.out.row0 hcl
    have HC := Lib.hid hcell
    have HCL := Lib.hid hcl
    have hu2 := hcl.u2
    have hr1 := hcl.r1
    clear hcell hcl
    by_cases hlu : n = unk rows
    · have hq : ((n : Int) == (unk rows : Int)) = true := by rw [hlu]; simp
      have HX := Lib.hid (show lotB g rows makes es = allEx g es by unfold lotB; rw [hc, HN.out]; simp [hlu])
      generalize unk rows = u at *
      clear hlu
      go_enter Tryd.func69, Tryd.ntmps69
      go_wp2_with fail
      refine (iclaim_any g _ mv rows makes _ (HG.out.on B0.out) (HH.out.on B0.out)).mono ?_
      rintro e w1 ⟨rfl, hb1⟩
      rw [hc]
      obtain ⟨P1, L1⟩ := boxes1 (P := [.int .i64 g, .slice (some ⟨G0, 0, none⟩) rows.length c, mv]) hb1
      have b0 := P1.cell 0
      have b1 := P1.cell 1
      have b2 := HC.out _ L1
      simp at b0 b1
      have HL := Lib.hid L1
      clear P1 L1 hb1
      go_wp2_with fail
      refine (iexsok_any g _ es _ (HG.out.on HL.out) (HE.out.below HL.out)).mono ?_
      rintro e w2 ⟨rfl, hb2⟩
      have L2 := Lib.hid (Below.on HL.out hb2)
      clear hb2 b0 b1 b2
      go_wp2
      go_ret
      exact ⟨by rw [HX.out]; rfl, L2.out⟩
    · have hq : ((n : Int) == (unk rows : Int)) = false := by rw [beq_eq_false_iff_ne]; omega
      have HX := Lib.hid (show lotB g rows makes es = false by unfold lotB; rw [hc, HN.out]; simp [hlu])
      generalize unk rows = u at *
      go_enter Tryd.func69, Tryd.ntmps69
      go_wp2_with fail
      refine (iclaim_any g _ mv rows makes _ (HG.out.on B0.out) (HH.out.on B0.out)).mono ?_
      rintro e w1 ⟨rfl, hb1⟩
      rw [hc]
      obtain ⟨P1, L1⟩ := boxes1 (P := [.int .i64 g, .slice (some ⟨G0, 0, none⟩) rows.length c, mv]) hb1
      have b0 := P1.cell 0
      have b1 := P1.cell 1
      have b2 := HC.out _ L1
      simp at b0 b1
      have HL := Lib.hid L1
      clear P1 L1 hb1
      go_wp2
      go_ret
      exact ⟨by rw [HX.out]; rfl, HL.out⟩

theorem slEq_any (v u : Value) (xs ys : List Int) (w : World) (h : Ints w v xs) (h' : Ints w u ys) : Calls Tryd.prog 70 #[v, u] w fun e w' => e = .returned (.bool (sameB xs ys)) ∧ Below w.heap.size w w' := by
  obtain ⟨a, c, rfl, k1⟩ := h.opened
  obtain ⟨a', c', rfl, k2⟩ := h'.opened
  have m1 := k1.max
  have m2 := k2.max
  obtain ⟨n, hn⟩ : ∃ n, xs.length = n := ⟨_, rfl⟩
  obtain ⟨m, hm⟩ : ∃ m, ys.length = m := ⟨_, rfl⟩
  have HC := Lib.hid (show ∀ k, k < n → _ from fun k hk => k1.get k (by rw [hn]; exact hk))
  have HC' := Lib.hid (show ∀ k, k < m → _ from fun k hk => k2.get k (by rw [hm]; exact hk))
  have HY := Lib.hid (show n = m → SameTo xs ys n → sameB xs ys = true from fun e h => same_yes (by rw [hn, hm, e]) (by rw [hn]; exact h))
  have HL := Lib.hid (show n ≠ m → sameB xs ys = false from fun e => same_len (by rw [hn, hm]; exact e))
  rw [hn] at m1 ⊢
  rw [hm] at m2 ⊢
  unfold maxLen at m1 m2
  clear h h' k1 k2 hn hm
  by_cases hlen : n = m
  · subst hlen
    have hd : ((n : Int) != (n : Int)) = false := by simp
    go_enter Tryd.func70, Tryd.ntmps70
    go_wp2
    go_loopw [13] (fun i wr => ∃ k : Nat, k ≤ n ∧ i = .int .i64 k ∧ Hid (SameTo xs ys k) ∧ ∃ m, wr = w.drewN m) (fun i _ => n - (intOf i).toNat)
    case atStart => exact ⟨0, by omega, rfl, Lib.hid (SameTo.zero _ _), 0, rfl⟩
    case round =>
      obtain ⟨k, hk, rfl, hs, m, rfl⟩ := hrel
      by_cases hlt : k < n
      · obtain ⟨A, rfl, _, hc⟩ := HC.out k hlt
        obtain ⟨A', rfl, _, hc'⟩ := HC'.out k hlt
        have hlt1 : (k : Int) < (n : Int) := by omega
        by_cases he : nth xs k = nth ys k
        · have HS := Lib.hid (hs.out.succ he)
          have hq : (nth xs k != nth ys k) = false := by simpa using he
          clear he hs
          go_wp2_with fail
          go_quiet (fail)
          go_wp2
          go_roundw
          case rel => exact ⟨k + 1, by omega, by go_num, HS, _, rfl⟩
          case measure => simp [intOf]; omega
        · have HT := Lib.hid (same_no he)
          have hq : (nth xs k != nth ys k) = true := by simpa using he
          clear he hs
          go_wp2_with fail
          go_quiet (fail)
          go_wp2
          go_ret
          exact ⟨by rw [HT.out]; rfl, below_of_drew (World.drewN_drewN _ _ _)⟩
      · obtain rfl : k = n := by omega
        have HX := Lib.hid (HY.out (by simp) hs.out)
        go_wp2
        go_ret
        exact ⟨by rw [HX.out]; rfl, below_of_drew rfl⟩
  · have HX := Lib.hid (HL.out hlen)
    have hd : ((n : Int) != (m : Int)) = true := by rw [bne_iff_ne]; omega
    go_enter Tryd.func70, Tryd.ntmps70
    go_wp2
    go_ret
    exact ⟨by rw [HX.out]; rfl, Below.refl _ _⟩
end Go.Proofs.YtljekapbcphdaabDoor

/- impl.RowsMake. -/
namespace Go.Proofs.YtljekapbcphdaabDoor
open Go.RowKit

theorem Lot.row_len {g : Int} {rows : List (List Int)} {makes es : List Int} (h : Lot g rows makes es) {k : Nat} (hk : k < rows.length) : (row rows k).length = es.length := by rw [(h.cl.row k hk).1, h.len]

set_option maxHeartbeats 3200000 in
theorem irmk_any (g : Int) (rv mv ev : Value) (rows : List (List Int)) (makes es : List Int) (w : World) (G : Gr w) (h : Cw w rv mv rows makes) (he : Ints w ev es) :
    Calls Tryd.prog 71 #[.agg #[.int .i64 g, rv, mv], ev] w fun e w' => ∃ v, e = .returned v ∧ Own w' w.heap.size v (rmk g rows makes es) ∧ Below w.heap.size w w' := by
  obtain ⟨ea, ec, rfl, k3⟩ := he.opened
  have HH := Lib.hid h
  have HE := Lib.hid he
  have HG := Lib.hid G
  have B0 := Lib.hid (below_grow w (.cells #[.int .i64 g, rv, mv] 26))
  cases hl : lotB g rows makes es
  · have HX := Lib.hid (rmk_no hl)
    clear h he G k3
    go_enter Tryd.func71, Tryd.ntmps71
    go_wp2_with fail
    refine (ilot_any g rv mv _ rows makes es _ (HG.out.on B0.out) (HH.out.on B0.out) (HE.out.below B0.out)).mono ?_
    rintro e w1 ⟨rfl, hb1⟩
    rw [hl]
    have L1 := Lib.hid (Below.on B0.out hb1)
    go_wp2
    go_ret
    exact ⟨_, rfl, by rw [HX.out]; exact World.ownsRow_nil _ _ _ _, L1.out⟩
  · have HX := Lib.hid (rmk_yes hl)
    have hlot := lotB_true.1 hl
    obtain ⟨a, c, rfl, k1⟩ := h.rows.opened
    obtain ⟨n, hn⟩ : ∃ n, rows.length = n := ⟨_, rfl⟩
    obtain ⟨u, hu⟩ : ∃ u, es.length = u := ⟨_, rfl⟩
    have hu2 : u ≤ 2 := by rw [← hu, hlot.len]; exact hlot.cl.u2
    have hn3 : n ≤ 3 := by rw [← hn]; exact hlot.cl.r3
    have HC := Lib.hid (show ∀ w', Below w.heap.size w w' → ∀ k, k < n → ∃ G x, a = some ⟨G, 0, none⟩ ∧ w'.cell? ⟨G, k, none⟩ = some x ∧ ∃ ax cx, x = .slice ax u cx ∧ ∀ j, j < u → ∃ X, ax = some ⟨X, 0, none⟩ ∧ w'.cell? ⟨X, j, none⟩ = some (.int .i64 (nth (row rows k) j)) from fun w' hb k hk => by
      have hk' : k < rows.length := by rw [hn]; exact hk
      obtain ⟨G, x, e1, _, e2, e3⟩ := (k1.on hb).get k hk'
      obtain ⟨ax, cx, e4, e5⟩ := e3.opened
      rw [hlot.row_len hk', hu] at e4
      refine ⟨G, x, e1, e2, ax, cx, e4, fun j hj => ?_⟩
      obtain ⟨X, f1, _, f2⟩ := e5.get j (by rw [hlot.row_len hk', hu]; exact hj)
      exact ⟨X, f1, f2⟩)
    have HEC := Lib.hid (show ∀ w', Below w.heap.size w w' → ∀ j, j < u → ∃ X, ea = some ⟨X, 0, none⟩ ∧ w'.cell? ⟨X, j, none⟩ = some (.int .i64 (nth es j)) from fun w' hb j hj => by
      obtain ⟨X, f1, _, f2⟩ := (k3.on hb).get j (by rw [hu]; exact hj)
      exact ⟨X, f1, f2⟩)
    have HS := Lib.hid (show ∀ k, mkTo g rows es (k + 1) = mkTo g rows es k ++ [prodTo g (row rows k) es u] from fun k => by rw [mkTo_succ, hu])
    have HP := Lib.hid (show ∀ k j, prodTo g (row rows k) es (j + 1) = tim g (prodTo g (row rows k) es j) (gpow g (nth (row rows k) j) (nth es j)) from fun k j => prodTo_succ _ _ _ _)
    have HML := Lib.hid (show ∀ k, (mkTo g rows es k).length = k from fun k => mkTo_len _ _ _ k)
    have HA : Hid (mkAll g rows es = mkTo g rows es n) := Lib.hid (by unfold mkAll; rw [hn])
    have HN := Lib.hid hn
    have HU := Lib.hid hu
    rw [hn] at HH B0 ⊢
    rw [hu] at HE ⊢
    clear h he G k3 k1 hlot hn hu
    go_enter Tryd.func71, Tryd.ntmps71
    go_wp2_with fail
    refine (ilot_any g _ mv _ rows makes es _ (HG.out.on B0.out) (HH.out.on B0.out) (HE.out.below B0.out)).mono ?_
    rintro e w1 ⟨rfl, hb1⟩
    rw [hl]
    have I1 := Lib.hid (InB.of (P := [.int .i64 g, .slice a n c, mv]) hb1)
    have b1 := I1.out.box.cell 1
    simp at b1
    clear hb1 B0
    go_wp2
    clear b1
    go_loopw [5, 18] (fun v i wr => ∃ k : Nat, k ≤ n ∧ i = .int .i64 k ∧ Hid (Own wr (w.heap.size + 1) v (mkTo g rows es k)) ∧ Hid (InB w [.int .i64 g, .slice a n c, mv] 26 wr)) (fun _ i _ => n - (intOf i).toNat)
    case atStart => exact ⟨0, by omega, rfl, Lib.hid (World.ownsRow_nil _ _ _ _), I1⟩
    case round =>
      obtain ⟨k, hk, rfl, ho, hI⟩ := hrel
      obtain ⟨wo, rfl⟩ : ∃ wo : World, wo = wr := ⟨_, rfl⟩
      clear I1
      by_cases hlt : k < n
      · obtain ⟨G0, x, rfl, hc, ax, cx, rfl, hrow⟩ := HC.out _ hI.out.fin k hlt
        have HROW := Lib.hid hrow
        clear hrow
        go_wp2
        clear hc
        go_loopw [8, 24] (fun x i wi => ∃ j : Nat, j ≤ u ∧ i = .int .i64 j ∧ x = .int .i64 (prodTo g (row rows k) es j) ∧ ∃ m, wi = wo.drewN m) (fun _ i _ => u - (intOf i).toNat)
        case atStart => exact ⟨0, by omega, rfl, rfl, 0, rfl⟩
        case round =>
          obtain ⟨j, hj, rfl, rfl, m, hwi⟩ := hrel
          have HW := Lib.hid hwi
          have GW : Hid (Gr wr) := Lib.hid (by rw [hwi]; exact (HG.out.on hI.out.fin).drewN m)
          by_cases hjl : j < u
          · obtain ⟨X, rfl, hcx0⟩ := HROW.out j hjl
            obtain ⟨Y, rfl, hce0⟩ := HEC.out _ hI.out.fin j hjl
            have hcx : wr.cell? ⟨X, j, none⟩ = some (.int .i64 (nth (row rows k) j)) := by rw [hwi]; exact hcx0
            have hce : wr.cell? ⟨Y, j, none⟩ = some (.int .i64 (nth es j)) := by rw [hwi]; exact hce0
            have hbb : wr.cell? ⟨w.heap.size, 0, none⟩ = some (.int .i64 g) := by rw [hwi]; exact hI.out.box.cell 0
            have hjl1 : (j : Int) < (u : Int) := by omega
            clear hcx0 hce0 hwi
            go_wp2_with fail
            go_quiet (first | (go_at_call 64; exact Calls.quiet_of (ipow_any _ _ _ _ (Gr.drewN GW.out _))) | (go_at_call 63; exact Calls.quiet_of (itim_any _ _ _ _ (Gr.drewN GW.out _))))
            go_wp2
            go_roundw
            case rel => exact ⟨j + 1, by omega, by go_num, by rw [HP.out], _, by rw [HW.out]; exact World.drewN_drewN _ _ _⟩
            case measure => simp [intOf]; omega
          · obtain rfl : j = u := by omega
            have O1 : Own wr (w.heap.size + 1) u5 (mkTo g rows es k) := by rw [hwi]; exact ho.out
            have I1 : InB w [.int .i64 g, .slice (some ⟨G0, 0, none⟩) n c, mv] 26 wr := hI.out.on (below_of_drew hwi)
            have hll := HML.out k
            clear hwi ho hI
            go_wp2_with (at_builtin; refine wpAppInt rfl _ _ rfl rfl O1 (by omega) I1.size rfl ?_)
            intro v' w4 o4 g4 _
            have O4 : Hid (Own w4 (w.heap.size + 1) v' (mkTo g rows es (k + 1))) := Lib.hid (by rw [HS.out]; exact o4)
            have I4 := Lib.hid (I1.grown g4 fun q hq => (O1.lt q hq).1)
            clear o4 g4 O1 I1
            go_wp2
            go_roundw
            case rel => exact ⟨k + 1, by omega, by go_num, O4, I4⟩
            case measure => simp [intOf]; omega
      · obtain rfl : k = n := by omega
        have O1 : Hid (Own wo w.heap.size u5 (mkAll g rows es)) := Lib.hid (by rw [HA.out]; exact own_mono ho.out (Nat.le_succ _))
        clear ho
        go_wp2
        go_ret
        exact ⟨_, rfl, by rw [HX.out]; exact O1.out, hI.out.fin⟩
end Go.Proofs.YtljekapbcphdaabDoor
