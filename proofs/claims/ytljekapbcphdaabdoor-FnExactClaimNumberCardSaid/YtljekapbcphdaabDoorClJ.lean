/- impl: lotOk, slices.Equal, RowsMake, Solves. -/
import Derived.Test.YtljekapbcphdaabDoorClI
import Derived.Test.YtljekapbcphdaabDoorTalkS2
namespace Go.Proofs.YtljekapbcphdaabDoor
open Go.RowKit

theorem Cw.row0 {w : World} {rv mv : Value} {g : Int} {rows : List (List Int)} {makes : List Int} (h : Cw w rv mv rows makes) (hc : Cl g rows makes) :
    ∃ G c a0 c0, rv = .slice (some ⟨G, 0, none⟩) rows.length c ∧ ∀ w', Below w.heap.size w w' → w'.cell? ⟨G, 0, none⟩ = some (.slice a0 (unk rows) c0) := by
  obtain ⟨a, c, rfl, k1⟩ := h.rows.opened
  obtain ⟨G, u, rfl, hl, hcell, hi⟩ := k1.get 0 hc.r1
  obtain ⟨a0, c0, rfl, _⟩ := hi.opened
  exact ⟨G, c, a0, c0, rfl, fun w' hb => (hb.cell (p := ⟨G, 0, none⟩) hl).trans hcell⟩

theorem ilot_any (g : Int) (rv mv ev : Value) (rows : List (List Int)) (makes es : List Int) (w : World) (G : Gr w) (h : Cw w rv mv rows makes) (he : Ints w ev es) :
    Calls Tryd.prog 69 #[.agg #[.int .i64 g, rv, mv], ev] w fun e w' => e = .returned (.bool (lotB g rows makes es)) ∧ Below w.heap.size w w' := by
  obtain ⟨ea, ec, rfl, k3⟩ := he.opened
  have HH := Lib.hid h
  have HE := Lib.hid he
  have HG := Lib.hid G
  clear h he G
  have hem := k3.max
  unfold maxLen at hem
  obtain ⟨n, hn⟩ : ∃ n, es.length = n := ⟨_, rfl⟩
  have HN := Lib.hid hn
  rw [hn] at hem HE ⊢
  have B0 := Lib.hid (below_grow w (.cells #[.int .i64 g, rv, mv] 26))
  clear k3 hn
  cases hc : clB g rows makes
  · have HX := Lib.hid (show lotB g rows makes es = false by unfold lotB; rw [hc]; rfl)
    go_enter Tryd.func69, Tryd.ntmps69
    go_wp2_with fail
    refine (iclaim_any g rv mv rows makes _ (HG.out.on B0.out) (HH.out.on B0.out)).mono ?_
    rintro e w1 ⟨rfl, hb1⟩
    rw [hc]
    have L1 := Lib.hid (Below.on B0.out hb1)
    go_wp2
    go_ret
    exact ⟨by rw [HX.out]; rfl, L1.out⟩
  · have hcl := clB_true.1 hc
    obtain ⟨G0, c, a0, c0, rfl, hcell⟩ := HH.out.row0 hcl
    have HC := Lib.hid hcell
    have HCL := Lib.hid hcl
    have hu2 := hcl.u2
    have hr1 := hcl.r1
    clear hcell hcl
    by_cases hlu : n = unk rows
    · have hq : ((n : Int) == (unk rows : Int)) = true := by rw [hlu]; simp
      have HX := Lib.hid (show lotB g rows makes es = allEx g es by unfold lotB; rw [hc, HN.out]; simp [hlu])
      generalize unk rows = u at *
      clear hlu
      go_enter Tryd.func69, Tryd.ntmps69
      go_wp2_with fail
      refine (iclaim_any g _ mv rows makes _ (HG.out.on B0.out) (HH.out.on B0.out)).mono ?_
      rintro e w1 ⟨rfl, hb1⟩
      rw [hc]
      obtain ⟨P1, L1⟩ := boxes1 (P := [.int .i64 g, .slice (some ⟨G0, 0, none⟩) rows.length c, mv]) hb1
      have b0 := P1.cell 0
      have b1 := P1.cell 1
      have b2 := HC.out _ L1
      simp at b0 b1
      have HL := Lib.hid L1
      clear P1 L1 hb1
      go_wp2_with fail
      refine (iexsok_any g _ es _ (HG.out.on HL.out) (HE.out.below HL.out)).mono ?_
      rintro e w2 ⟨rfl, hb2⟩
      have L2 := Lib.hid (Below.on HL.out hb2)
      clear hb2 b0 b1 b2
      go_wp2
      go_ret
      exact ⟨by rw [HX.out]; rfl, L2.out⟩
    · have hq : ((n : Int) == (unk rows : Int)) = false := by rw [beq_eq_false_iff_ne]; omega
      have HX := Lib.hid (show lotB g rows makes es = false by unfold lotB; rw [hc, HN.out]; simp [hlu])
      generalize unk rows = u at *
      go_enter Tryd.func69, Tryd.ntmps69
      go_wp2_with fail
      refine (iclaim_any g _ mv rows makes _ (HG.out.on B0.out) (HH.out.on B0.out)).mono ?_
      rintro e w1 ⟨rfl, hb1⟩
      rw [hc]
      obtain ⟨P1, L1⟩ := boxes1 (P := [.int .i64 g, .slice (some ⟨G0, 0, none⟩) rows.length c, mv]) hb1
      have b0 := P1.cell 0
      have b1 := P1.cell 1
      have b2 := HC.out _ L1
      simp at b0 b1
      have HL := Lib.hid L1
      clear P1 L1 hb1
      go_wp2
      go_ret
      exact ⟨by rw [HX.out]; rfl, HL.out⟩

theorem slEq_any (v u : Value) (xs ys : List Int) (w : World) (h : Ints w v xs) (h' : Ints w u ys) : Calls Tryd.prog 70 #[v, u] w fun e w' => e = .returned (.bool (sameB xs ys)) ∧ Below w.heap.size w w' := by
  obtain ⟨a, c, rfl, k1⟩ := h.opened
  obtain ⟨a', c', rfl, k2⟩ := h'.opened
  have m1 := k1.max
  have m2 := k2.max
  obtain ⟨n, hn⟩ : ∃ n, xs.length = n := ⟨_, rfl⟩
  obtain ⟨m, hm⟩ : ∃ m, ys.length = m := ⟨_, rfl⟩
  have HC := Lib.hid (show ∀ k, k < n → _ from fun k hk => k1.get k (by rw [hn]; exact hk))
  have HC' := Lib.hid (show ∀ k, k < m → _ from fun k hk => k2.get k (by rw [hm]; exact hk))
  have HY := Lib.hid (show n = m → SameTo xs ys n → sameB xs ys = true from fun e h => same_yes (by rw [hn, hm, e]) (by rw [hn]; exact h))
  have HL := Lib.hid (show n ≠ m → sameB xs ys = false from fun e => same_len (by rw [hn, hm]; exact e))
  rw [hn] at m1 ⊢
  rw [hm] at m2 ⊢
  unfold maxLen at m1 m2
  clear h h' k1 k2 hn hm
  by_cases hlen : n = m
  · subst hlen
    have hd : ((n : Int) != (n : Int)) = false := by simp
    go_enter Tryd.func70, Tryd.ntmps70
    go_wp2
    go_loopw [13] (fun i wr => ∃ k : Nat, k ≤ n ∧ i = .int .i64 k ∧ Hid (SameTo xs ys k) ∧ ∃ m, wr = w.drewN m) (fun i _ => n - (intOf i).toNat)
    case atStart => exact ⟨0, by omega, rfl, Lib.hid (SameTo.zero _ _), 0, rfl⟩
    case round =>
      obtain ⟨k, hk, rfl, hs, m, rfl⟩ := hrel
      by_cases hlt : k < n
      · obtain ⟨A, rfl, _, hc⟩ := HC.out k hlt
        obtain ⟨A', rfl, _, hc'⟩ := HC'.out k hlt
        have hlt1 : (k : Int) < (n : Int) := by omega
        by_cases he : nth xs k = nth ys k
        · have HS := Lib.hid (hs.out.succ he)
          have hq : (nth xs k != nth ys k) = false := by simpa using he
          clear he hs
          go_wp2_with fail
          go_quiet (fail)
          go_wp2
          go_roundw
          case rel => exact ⟨k + 1, by omega, by go_num, HS, _, rfl⟩
          case measure => simp [intOf]; omega
        · have HT := Lib.hid (same_no he)
          have hq : (nth xs k != nth ys k) = true := by simpa using he
          clear he hs
          go_wp2_with fail
          go_quiet (fail)
          go_wp2
          go_ret
          exact ⟨by rw [HT.out]; rfl, below_of_drew (World.drewN_drewN _ _ _)⟩
      · obtain rfl : k = n := by omega
        have HX := Lib.hid (HY.out (by simp) hs.out)
        go_wp2
        go_ret
        exact ⟨by rw [HX.out]; rfl, below_of_drew rfl⟩
  · have HX := Lib.hid (HL.out hlen)
    have hd : ((n : Int) != (m : Int)) = true := by rw [bne_iff_ne]; omega
    go_enter Tryd.func70, Tryd.ntmps70
    go_wp2
    go_ret
    exact ⟨by rw [HX.out]; rfl, Below.refl _ _⟩
end Go.Proofs.YtljekapbcphdaabDoor
