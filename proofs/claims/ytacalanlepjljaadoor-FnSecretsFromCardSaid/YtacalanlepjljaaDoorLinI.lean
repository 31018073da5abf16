/- impl.LinesUp. -/
import Derived.Test.YtacalanlepjljaaDoorAskI
import Derived.Test.YtacalanlepjljaaDoorKysI
namespace Go.Proofs.YtacalanlepjljaaDoor
open Go.RowKit

set_option maxRecDepth 20000 in
set_option maxHeartbeats 3200000 in
theorem ilin_any (g need ask : Int) (v : Value) (asks : List Int) (w : World) (G : Gr w) (h : Ints w v asks) : Calls Tryd.prog 23 #[.int .i64 g, .int .i64 need, .int .i64 ask, v] w fun e w' => e = .returned (.bool (linB g need ask asks)) ∧ Below w.heap.size w w' := by
  have HG := Lib.hid G
  have HH := Lib.hid h
  obtain ⟨a, c, rfl, k1⟩ := h.opened
  obtain ⟨n, hn⟩ : ∃ n, asks.length = n := ⟨_, rfl⟩
  have HN := Lib.hid hn
  have hmx := k1.max
  have HC := Lib.hid (show ∀ w', Below w.heap.size w w' → ∀ k, k < n → ∃ X, a = some ⟨X, 0, none⟩ ∧ w'.cell? ⟨X, k, none⟩ = some (.int .i64 (nth asks k)) from fun w' hb k hk => by
    obtain ⟨X, f1, _, f2⟩ := (k1.on hb).get k (by rw [hn]; exact hk)
    exact ⟨X, f1, f2⟩)
  rw [hn] at hmx HH ⊢
  unfold maxLen at hmx
  clear h k1 hn G
  cases h1 : mnyB g n need
  · have HX := Lib.hid (linB_no1 (asks := asks) ask (by rw [HN.out]; exact h1))
    go_enter Tryd.func23, Tryd.ntmps23
    go_wp2_with fail
    refine (imnyok_any g need n _ HG.out).mono ?_
    rintro e w1 ⟨rfl, hb⟩
    rw [h1]
    have B1 := Lib.hid hb
    clear hb
    go_wp2
    go_ret
    exact ⟨by rw [HX.out]; rfl, B1.out⟩
  cases h2 : exB g ask
  · have HX := Lib.hid (linB_no2 (need := need) (asks := asks) h2)
    go_enter Tryd.func23, Tryd.ntmps23
    go_wp2_with fail
    refine (imnyok_any g need n _ HG.out).mono ?_
    rintro e w1 ⟨rfl, hb⟩
    rw [h1]
    have B1 := Lib.hid hb
    clear hb
    go_wp2_with fail
    refine (iex_l g ask _ (HG.out.on B1.out)).mono ?_
    rintro e w2 ⟨rfl, hb⟩
    rw [h2]
    have B2 := Lib.hid (Below.on B1.out hb)
    clear hb
    go_wp2
    go_ret
    exact ⟨by rw [HX.out]; rfl, B2.out⟩
  cases h3 : allEx g asks
  · have HX := Lib.hid (linB_no3 (need := need) (ask := ask) h3)
    go_enter Tryd.func23, Tryd.ntmps23
    go_wp2_with fail
    refine (imnyok_any g need n _ HG.out).mono ?_
    rintro e w1 ⟨rfl, hb⟩
    rw [h1]
    have B1 := Lib.hid hb
    clear hb
    go_wp2_with fail
    refine (iex_l g ask _ (HG.out.on B1.out)).mono ?_
    rintro e w2 ⟨rfl, hb⟩
    rw [h2]
    have B2 := Lib.hid (Below.on B1.out hb)
    clear hb
    go_wp2_with fail
    refine (iexsok_any g _ asks _ (HG.out.on B2.out) (HH.out.below B2.out)).mono ?_
    rintro e w3 ⟨rfl, hb⟩
    rw [h3]
    have B3 := Lib.hid (Below.on B2.out hb)
    clear hb
    go_wp2
    go_ret
    exact ⟨by rw [HX.out]; rfl, B3.out⟩
  have hm := mnyB_true.1 h1
  obtain ⟨m1, m2, m3, m4⟩ := hm.ldN
  have g0 := hm.g0; have g4 := hm.g4; have n4 := hm.n4; have n1 := hm.n1; have nl := hm.lt; have d1 := hm.d1; have dn := hm.dn
  have HX := Lib.hid (linB_yes (need := need) (ask := ask) (asks := asks) (by rw [HN.out]; exact h1) h2 h3)
  obtain ⟨m, hmm⟩ : ∃ m, leadN n need = m := ⟨_, rfl⟩
  rw [hmm] at m1 m2 m3 m4
  have HX2 := Lib.hid (show linB g need ask asks = upB g m n ask asks by rw [HX.out, HN.out, hmm])
  have HOK := Lib.hid (show AtOk g (frP ask asks m) from frP_ok g0 g4 (by omega) m4 h2 fun k hk => allEx_at h3 (by rw [HN.out]; omega))
  obtain ⟨L, hL⟩ : ∃ f : Nat → Int, ∀ k : Nat, lag g (nodes m) (frees ask asks m) ((k : Int) + 1) = f k := ⟨_, fun _ => rfl⟩
  have HY := Lib.hid (show (∀ k, k < n → L k = nth asks k) → upB g m n ask asks = true from fun e => upB_true.2 fun k hk => by rw [hL]; exact e k hk)
  have HNO := Lib.hid (show ∀ k, k < n → L k ≠ nth asks k → upB g m n ask asks = false from fun k hk e => upB_false hk (by rw [hL]; exact e))
  have HAT := Lib.hid (show ∀ (k : Nat) (v : Value) (B : Nat) (w' : World), k < n → Gr w' → OwnA w' B v (frP ask asks m) → Calls Tryd.prog 54 #[.int .i64 g, v, .int .i64 ((k : Int) + 1)] w' fun e w'' => e = .returned (.int .i64 (L k)) ∧ Below w'.heap.size w' w'' from fun k v B w' hk G' ho => by
    have := ithere_any g ((k : Int) + 1) v (frP ask asks m) B w' G' ho HOK.out (exB_true.2 ⟨⟨g0, g4⟩, by omega, by omega⟩)
    rwa [plD_frP, vlD_frP, hL] at this)
  have HF0 := Lib.hid (show frP ask asks 0 = [(0, ask)] from rfl)
  have HFS := Lib.hid (fun k => frP_succ ask asks k)
  have HFL := Lib.hid (fun k => frP_len ask asks k)
  obtain ⟨i0, hi, hz0, hz1, hz2⟩ := info_parts infoAt
  clear hm hmm hL HX g0 g4 nl m4
  go_enter Tryd.func23, Tryd.ntmps23
  go_wp2_with fail
  refine (imnyok_any g need n _ HG.out).mono ?_
  rintro e w1 ⟨rfl, hb⟩
  rw [h1]
  have B1 := Lib.hid hb
  clear hb
  go_wp2_with fail
  refine (iex_l g ask _ (HG.out.on B1.out)).mono ?_
  rintro e w2 ⟨rfl, hb⟩
  rw [h2]
  have B2 := Lib.hid (Below.on B1.out hb)
  clear hb
  go_wp2_with fail
  refine (iexsok_any g _ asks _ (HG.out.on B2.out) (HH.out.below B2.out)).mono ?_
  rintro e w3 ⟨rfl, hb⟩
  rw [h3]
  have B3 := Lib.hid (Below.on B2.out hb)
  have BA := Lib.hid (show OwnA (w3.alloc (.cells #[.int .i64 0, .int .i64 ask] 69)) w.heap.size (.slice (some ⟨w3.heap.size, 0, none⟩) 1 1) [(0, ask)] from ownA_mono (ownA_one w3 0 ask) B3.out.size)
  have BB := Lib.hid (Below.on B3.out (below_grow w3 (.cells #[.int .i64 0, .int .i64 ask] 69)))
  clear hb
  go_wp2
  go_loopw [9, 38] (fun v i wr => ∃ k : Nat, k ≤ m ∧ i = .int .i64 k ∧ Hid (OwnA wr w.heap.size v (frP ask asks k) ∧ Below w.heap.size w wr)) (fun _ i _ => m - (intOf i).toNat)
  case atStart => exact ⟨0, by omega, rfl, Lib.hid ⟨by rw [HF0.out]; exact BA.out, BB.out⟩⟩
  case round =>
    obtain ⟨k, hk, rfl, hO⟩ := hrel
    obtain ⟨wo, rfl⟩ : ∃ wo : World, wo = wr := ⟨_, rfl⟩
    by_cases hkm : k < m
    · have hk1 : (k : Int) < (n : Int) - need := by omega
      obtain ⟨X, rfl, c0⟩ := HC.out _ hO.out.2 k (by omega)
      have hs4 := hO.out.2.size
      have hown3 := hO.out.1
      have hln := HFL.out k
      obtain ⟨D, hD⟩ : ∃ D, frP ask asks k = D := ⟨_, rfl⟩
      rw [hD] at hown3 hln
      have HDD := Lib.hid hD
      clear hD
      go_wp2_with (at_builtin; refine wpList_append_own _ rfl _ _ 70 rfl w.heap.size 69 i0 (.agg #[.int .i64 0, .int .i64 0]) 2 16 Tryd.underlying70 hi hz0 hz1 hz2 rfl (by decide) _ _ _ rfl (hown3.alloc _) ⟨wo.heap.size, 0, none⟩ 1 1 [.int .i64 ((k : Int) + 1), .int .i64 (nth asks k)] rfl rfl ?c1 ?c2 ?c3 ?c4 ?c5 ?_)
      case c1 =>
        intro j u hj
        match j, hj with
        | 0, hj => simp at hj; subst hj; simp [Addr.add]
        | 1, hj => simp at hj; subst hj; simp [Addr.add]
      case c2 => intro u hu; simp at hu; rcases hu with rfl | rfl <;> rfl
      case c3 => unfold maxLen; omega
      case c4 => omega
      case c5 => simp at hs4 ⊢; omega
      · intro v' w4 hown' hgrow _
        have R := ownA_step (w := w) hown3 (Nat.le_refl _) hO.out.2 (by rw [hln]; exact hown') hgrow
        have RR := Lib.hid R
        clear hown' hgrow hown3 c0 R
        go_wp2
        go_roundw
        case rel => exact ⟨k + 1, by omega, by go_num, Lib.hid ⟨by rw [HFS.out, HDD.out]; exact RR.out.1, RR.out.2⟩⟩
        case measure => simp [intOf]; omega
    · obtain rfl : k = m := by omega
      have hk1 : ¬ (k : Int) < (n : Int) - need := by omega
      obtain ⟨vf, hvf⟩ : ∃ vf : Value, vf = u9 := ⟨_, rfl⟩
      rw [← hvf] at hO ⊢
      clear hvf
      go_wp2
      go_loopw [54] (fun i wr => ∃ j : Nat, j ≤ n ∧ i = .int .i64 j ∧ Hid (∀ q, q < j → L q = nth asks q) ∧ Hid (Below wo.heap.size wo wr)) (fun i _ => n - (intOf i).toNat)
      case atStart => exact ⟨0, by omega, rfl, Lib.hid fun q hq => by omega, Lib.hid (Below.refl _ _)⟩
      case round =>
        obtain ⟨j, hj, rfl, hT, hB⟩ := hrel
        obtain ⟨wi, rfl⟩ : ∃ wi : World, wi = wr := ⟨_, rfl⟩
        by_cases hjn : j < n
        · have hj1 : (j : Int) < (n : Int) := by omega
          have BW := Lib.hid (Below.on hO.out.2 hB.out)
          obtain ⟨X, rfl, c0⟩ := HC.out _ BW.out j hjn
          go_wp2_with fail
          refine (HAT.out j _ w.heap.size _ hjn (HG.out.on BW.out) (ownA_below hO.out.1 hB.out)).mono ?_
          rintro e w5 ⟨rfl, hb⟩
          have B5 := Lib.hid (Below.on hB.out hb)
          clear hb c0
          by_cases hq : L j = nth asks j
          · have hne : (L j != nth asks j) = false := by simpa using hq
            have HQ := Lib.hid hq
            clear hq
            go_wp2
            go_roundw
            case rel => exact ⟨j + 1, by omega, by go_num, Lib.hid fun q hq => by
              by_cases e : q < j
              · exact hT.out q e
              · obtain rfl : q = j := by omega
                exact HQ.out, B5⟩
            case measure => simp [intOf]; omega
          · have hne : (L j != nth asks j) = true := by simpa using hq
            have HZ := Lib.hid (HNO.out j hjn hq)
            clear hq
            go_wp2
            go_ret
            exact ⟨by rw [HX2.out, HZ.out]; rfl, Below.on hO.out.2 B5.out⟩
        · obtain rfl : j = n := by omega
          have hj1 : ¬ (j : Int) < (j : Int) := by omega
          have HZ := Lib.hid (HY.out hT.out)
          clear hT
          go_wp2
          go_ret
          exact ⟨by rw [HX2.out, HZ.out]; rfl, Below.on hO.out.2 hB.out⟩
end Go.Proofs.YtacalanlepjljaaDoor
