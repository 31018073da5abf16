/- spec.LinesUp. -/
import Derived.Test.YtacalanlepjljaaDoorLinI
import Derived.Test.YtacalanlepjljaaDoorAtS
import Derived.Deep.Cut
namespace Go.Proofs.YtacalanlepjljaaDoor
open Go.RowKit

theorem own_one (w : World) (y : Int) : Own (w.alloc (.cells #[.int .i64 y] 3)) w.heap.size (.slice (some ⟨w.heap.size, 0, none⟩) 1 1) [y] :=
  ⟨rfl, .inr ⟨w.heap.size, 1, #[.int .i64 y], rfl, Nat.le_refl _, heap_alloc_new w _, Nat.le_refl _, by unfold maxLen; omega, rfl, rfl⟩⟩
theorem nodes_succ (m : Nat) : nodes (m + 1) = nodes m ++ [((m : Int) + 1)] := rfl
theorem frees_succ (ask : Int) (asks : List Int) (m : Nat) : frees ask asks (m + 1) = frees ask asks m ++ [nth asks m] := rfl
/-- How far both lists are, when k questions have been looked at. -/
def upTo (m k : Nat) : Nat := if k ≤ m then k else m
theorem upTo_lt {m k : Nat} (h : k < m) : upTo m (k + 1) = upTo m k + 1 ∧ upTo m k = k := by unfold upTo; rw [if_pos (by omega), if_pos (by omega)]; exact ⟨rfl, rfl⟩
theorem upTo_ge {m k : Nat} (h : ¬ k < m) : upTo m (k + 1) = upTo m k ∧ upTo m k = m := by
  unfold upTo
  rw [if_neg (by omega)]
  by_cases e : k ≤ m
  · rw [if_pos e]; omega
  · rw [if_neg e]; exact ⟨rfl, rfl⟩

set_option maxRecDepth 20000 in
set_option maxHeartbeats 3200000 in
theorem slin_any (g need ask : Int) (v : Value) (asks : List Int) (w : World) (h : Ints w v asks) : Calls Tryd.prog 24 #[.int .i64 g, .int .i64 need, .int .i64 ask, v] w fun e w' => e = .returned (.bool (linB g need ask asks)) ∧ Below w.heap.size w w' := by
  obtain ⟨a, c, rfl, k1⟩ := h.opened
  obtain ⟨n, hn⟩ : ∃ n, asks.length = n := ⟨_, rfl⟩
  have HN := Lib.hid hn
  have hmx := k1.max
  have HC := Lib.hid (show ∀ w', Below w.heap.size w w' → ∀ k, k < n → ∃ X, a = some ⟨X, 0, none⟩ ∧ w'.cell? ⟨X, k, none⟩ = some (.int .i64 (nth asks k)) from fun w' hb k hk => by
    obtain ⟨X, f1, _, f2⟩ := (k1.on hb).get k (by rw [hn]; exact hk)
    exact ⟨X, f1, f2⟩)
  have HM := Lib.hid (show gok g = true → mnyB g n need = ((decide (1 ≤ (n : Int)) && decide ((n : Int) ≤ min 4 (ord g - 1))) && (decide (1 ≤ need) && decide (need ≤ n))) from fun hg => by
    have hgg := gok_true.1 hg
    rw [Bool.eq_iff_iff, mnyB_true]
    simp only [Bool.and_eq_true, decide_eq_true_eq]
    constructor
    · intro h; have := h.n1; have := h.n4; have := h.lt; have := h.d1; have := h.dn; omega
    · rintro ⟨⟨c, d⟩, e, f⟩; exact ⟨hgg.1, hgg.2, by omega, by omega, by omega, e, f⟩)
  rw [hn] at hmx ⊢
  unfold maxLen at hmx
  clear h k1 hn
  have B0 := Lib.hid (Below.refl w.heap.size w)
  cases h2 : exB g ask
  · have HX := Lib.hid (linB_no2 (need := need) (asks := asks) h2)
    go_enter Tryd.func24, Tryd.ntmps24
    go_wp2_with fail
    refine (sex_any g ask _).mono ?_
    rintro e w1 ⟨rfl, hb⟩
    rw [h2]
    have B1 := Lib.hid hb
    clear hb
    go_wp2
    go_ret
    exact ⟨by rw [HX.out]; rfl, B1.out⟩
  have hgk : gok g = true := gok_true.2 (exB_true.1 h2).1
  obtain ⟨g0, g4⟩ := gok_true.1 hgk
  obtain ⟨o1, o2⟩ := ord_bd g0 g4
  have HMM := Lib.hid (HM.out hgk)
  by_cases hmn : (4 : Int) ≤ ord g - 1
  · have HE := Lib.hid (show min 4 (ord g - 1) = 4 from Int.min_eq_left hmn)
    cases hn1 : (decide (1 ≤ (n : Int)) && decide ((n : Int) ≤ 4))
    · have HX := Lib.hid (linB_no1 (need := need) (asks := asks) ask (show mnyB g asks.length need = false by rw [HN.out, HMM.out, HE.out, hn1]; rfl))
      go_enter Tryd.func24, Tryd.ntmps24
      go_wp2_with fail
      refine (sex_any g ask _).mono ?_
      rintro e w1 ⟨rfl, hb⟩
      rw [h2]
      have B1 := Lib.hid hb
      clear hb
      go_wp2_with fail
      refine (sord_any g _).mono ?_
      rintro e w2 ⟨rfl, hb⟩
      have B2 := Lib.hid (Below.on B1.out hb)
      clear hb
      go_wp2_with fail
      refine (l1In_any _ _ _ _).mono ?_
      rintro e w3 ⟨rfl, rfl⟩
      rw [hn1]
      go_wp2
      go_ret
      exact ⟨by rw [HX.out]; rfl, B2.out⟩
    · cases hn2 : (decide (1 ≤ need) && decide (need ≤ (n : Int)))
      · have HX := Lib.hid (linB_no1 (need := need) (asks := asks) ask (show mnyB g asks.length need = false by rw [HN.out, HMM.out, HE.out, hn1, hn2]; rfl))
        go_enter Tryd.func24, Tryd.ntmps24
        go_wp2_with fail
        refine (sex_any g ask _).mono ?_
        rintro e w1 ⟨rfl, hb⟩
        rw [h2]
        have B1 := Lib.hid hb
        clear hb
        go_wp2_with fail
        refine (sord_any g _).mono ?_
        rintro e w2 ⟨rfl, hb⟩
        have B2 := Lib.hid (Below.on B1.out hb)
        clear hb
        go_wp2_with fail
        refine (l1In_any _ _ _ _).mono ?_
        rintro e w3 ⟨rfl, rfl⟩
        rw [hn1]
        go_wp2_with fail
        refine (l1In_any _ _ _ _).mono ?_
        rintro e w3 ⟨rfl, rfl⟩
        rw [hn2]
        go_wp2
        go_ret
        exact ⟨by rw [HX.out]; rfl, B2.out⟩
      · have hmy : mnyB g n need = true := by rw [HMM.out, HE.out, hn1, hn2]; rfl
        go_enter Tryd.func24, Tryd.ntmps24
        go_wp2_with fail
        refine (sex_any g ask _).mono ?_
        rintro e w1 ⟨rfl, hb⟩
        rw [h2]
        have B1 := Lib.hid hb
        clear hb
        go_wp2_with fail
        refine (sord_any g _).mono ?_
        rintro e w2 ⟨rfl, hb⟩
        have B2 := Lib.hid (Below.on B1.out hb)
        clear hb
        go_wp2_with fail
        refine (l1In_any _ _ _ _).mono ?_
        rintro e w3 ⟨rfl, rfl⟩
        rw [hn1]
        go_wp2_with fail
        refine (l1In_any _ _ _ _).mono ?_
        rintro e w3 ⟨rfl, rfl⟩
        rw [hn2]
        have hm := mnyB_true.1 hmy
        obtain ⟨m1, m2, m3, m4⟩ := hm.ldN
        have n4 := hm.n4; have n1 := hm.n1; have nl := hm.lt; have d1 := hm.d1; have dn := hm.dn
        obtain ⟨m, hmm⟩ : ∃ m, leadN n need = m := ⟨_, rfl⟩
        rw [hmm] at m1 m2 m3 m4
        have HY3 := Lib.hid (show ∀ k, k < n → exB g (nth asks k) = false → linB g need ask asks = false from fun k hk e => linB_no3 (allEx_no (by rw [HN.out]; exact hk) e))
        have HY4 := Lib.hid (show (∀ k, k < n → exB g (nth asks k) = true) → linB g need ask asks = upB g m n ask asks from fun e => by rw [linB_yes (by rw [HN.out]; exact hmy) h2 (allEx_yes fun j hj => e j (by rw [← HN.out]; exact hj)), HN.out, hmm])
        obtain ⟨L, hL⟩ : ∃ f : Nat → Int, ∀ k : Nat, lag g (nodes m) (frees ask asks m) ((k : Int) + 1) = f k := ⟨_, fun _ => rfl⟩
        have HOWN := Lib.hid (show ∀ k, k < m → exB g (nth asks k) = true → L k = nth asks k from fun k hk e => by rw [← hL]; exact lag_own g0 g4 (by omega) m4 hk e)
        have HY := Lib.hid (show (∀ k, k < n → L k = nth asks k) → upB g m n ask asks = true from fun e => upB_true.2 fun k hk => by rw [hL]; exact e k hk)
        have HNO := Lib.hid (show ∀ k, k < n → L k ≠ nth asks k → upB g m n ask asks = false from fun k hk e => upB_false hk (by rw [hL]; exact e))
        have HAT := Lib.hid (show (∀ k, k < n → exB g (nth asks k) = true) → ∀ (k : Nat) (pv vv : Value) (w' : World), k < n → Ints w' pv (nodes m) → Ints w' vv (frees ask asks m) → Calls Tryd.prog 48 #[.int .i64 g, pv, vv, .int .i64 ((k : Int) + 1)] w' fun e w'' => e = .returned (.int .i64 (L k)) ∧ Below w'.heap.size w' w'' from fun hex k pv vv w' hk hp hv => by
          have := sat_any g ((k : Int) + 1) pv vv (nodes m) (frees ask asks m) w' hp hv (by rw [frees_len, nodes_len]) (by rw [nodes_len]; omega) (fun j hj => by rw [nodes_len] at hj; rw [nodes_nth m j (by omega)]; exact exB_true.2 ⟨⟨g0, g4⟩, by omega, by omega⟩) (fun j hj => by
            rw [nodes_len] at hj; rw [frees_nth ask asks m j (by omega)]
            by_cases e : j = 0
            · rw [if_pos e]; exact h2
            · rw [if_neg e]; exact hex (j - 1) (by omega)) (exB_true.2 ⟨⟨g0, g4⟩, by omega, by omega⟩) (nodes_apart g0 g4 (by omega) m4)
          rwa [hL] at this)
        have HNS := Lib.hid nodes_succ
        have HFS := Lib.hid (frees_succ ask asks)
        have HNL := Lib.hid nodes_len
        have HFL := Lib.hid (frees_len ask asks)
        have HN0 := Lib.hid (show nodes 0 = [0] from rfl)
        have HF0 := Lib.hid (show frees ask asks 0 = [ask] from rfl)
        clear hm hmm hL nl m4
        have A1 := Lib.hid (own_one w2 0)
        have BA := Lib.hid (below_grow w2 (.cells #[.int .i64 0] 3))
        obtain ⟨w8, hw8⟩ : ∃ w8, w8 = w2.alloc (.cells #[.int .i64 0] 3) := ⟨_, rfl⟩
        have hsz8 : w8.heap.size = w2.heap.size + 1 := by rw [hw8]; simp
        rw [← hw8] at A1 BA
        have A2 := Lib.hid (own_one w8 ask)
        have BC := Lib.hid (below_grow w8 (.cells #[.int .i64 ask] 3))
        have hs2 := B2.out.size
        have PR := Lib.hid (show (Own (w8.alloc (.cells #[.int .i64 ask] 3)) w.heap.size (.slice (some ⟨w2.heap.size, 0, none⟩) 1 1) [0] ∧ Own (w8.alloc (.cells #[.int .i64 ask] 3)) w.heap.size (.slice (some ⟨w2.heap.size + 1, 0, none⟩) 1 1) [ask]) ∧ (∀ k, (Value.slice (some ⟨w2.heap.size, 0, none⟩) 1 1).ownBlock = some k → (Value.slice (some ⟨w2.heap.size + 1, 0, none⟩) 1 1).ownBlock = some k → False) ∧ Below w.heap.size w (w8.alloc (.cells #[.int .i64 ask] 3)) from
          ⟨⟨own_mono (own_below A1.out BC.out) hs2, own_mono (by have := A2.out; rwa [hsz8] at this) (by omega)⟩, fun k e1 e2 => by simp [Value.ownBlock] at e1 e2; omega, Below.on B2.out (Below.on BA.out BC.out)⟩)
        rw [hw8] at PR
        clear A1 A2 BA BC hsz8 hw8
        go_wp2
        go_loopw [9, 10, 11] (fun pv vv i wr => ∃ k : Nat, k ≤ n ∧ i = .int .i64 k ∧ Hid (∀ q, q < k → exB g (nth asks q) = true) ∧ Hid ((Own wr w.heap.size pv (nodes (upTo m k)) ∧ Own wr w.heap.size vv (frees ask asks (upTo m k))) ∧ (∀ k, pv.ownBlock = some k → vv.ownBlock = some k → False) ∧ Below w.heap.size w wr)) (fun _ _ i _ => n - (intOf i).toNat)
        case atStart => exact ⟨0, by omega, rfl, Lib.hid fun q hq => by omega, by simp only [upTo, Nat.zero_le, if_true, HN0.out, HF0.out]; exact PR⟩
        case round =>
          obtain ⟨k, hk, rfl, hE, hO⟩ := hrel
          obtain ⟨wo, rfl⟩ : ∃ wo : World, wo = wr := ⟨_, rfl⟩
          clear PR
          by_cases hkn : k < n
          · have hk1 : (k : Int) < (n : Int) := by omega
            obtain ⟨X, rfl, c0⟩ := HC.out _ hO.out.2.2 k hkn
            cases he : exB g (nth asks k)
            · have HX := Lib.hid (HY3.out k hkn he)
              go_wp2_with fail
              refine (sex_any g (nth asks k) _).mono ?_
              rintro e w5 ⟨rfl, hb⟩
              rw [he]
              have B5 := Lib.hid (Below.on hO.out.2.2 hb)
              clear hb c0
              go_wp2
              go_ret
              exact ⟨by rw [HX.out]; rfl, B5.out⟩
            · have HEK := Lib.hid (show ∀ q, q < k + 1 → exB g (nth asks q) = true from fun q hq => by
                by_cases e : q < k
                · exact hE.out q e
                · obtain rfl : q = k := by omega
                  exact he)
              have HCK := Lib.hid (show ∀ w', Below w.heap.size w w' → w'.cell? ⟨X, k, none⟩ = some (.int .i64 (nth asks k)) from fun w' hb => by
                obtain ⟨X9, e9, c9⟩ := HC.out w' hb k hkn
                cases e9
                exact c9)
              go_wp2_with fail
              refine (sex_any g (nth asks k) _).mono ?_
              rintro e w5 ⟨rfl, hb⟩
              rw [he]
              have O5 := Lib.hid (show (Own w5 w.heap.size u9 (nodes (upTo m k)) ∧ Own w5 w.heap.size u10 (frees ask asks (upTo m k))) ∧ (∀ k, u9.ownBlock = some k → u10.ownBlock = some k → False) ∧ Below w.heap.size w w5 from ⟨⟨own_below hO.out.1.1 hb, own_below hO.out.1.2 hb⟩, hO.out.2.1, Below.on hO.out.2.2 hb⟩)
              clear hb c0 hO hE
              by_cases hkm : k < m
              · have hk2 : (k : Int) < (n : Int) - need := by omega
                obtain ⟨u1, u2⟩ := upTo_lt hkm
                rw [u2] at O5 u1
                have HU := Lib.hid u1
                clear u1 u2
                have ov := O5.out.1.1
                have hbs := O5.out.2.2.size
                go_upto_region 12 with (at_builtin; refine wpAppInt rfl _ _ rfl rfl ov (by rw [HNL.out]; omega) (by omega) rfl ?_)
                intro v8 w8 o8 g8 k8
                rw [← HNS.out] at o8
                have O6 := Lib.hid (show (Own w8 w.heap.size v8 (nodes (k + 1)) ∧ Own w8 w.heap.size u10 (frees ask asks k)) ∧ (∀ k, v8.ownBlock = some k → u10.ownBlock = some k → False) ∧ Below w.heap.size w w8 from ⟨⟨o8, own_heap O5.out.1.2 fun q hq => g8.block q (O5.out.1.2.lt q hq).2 fun e => O5.out.2.1 q e.symm hq⟩, fun q h1 h2 => by
                  rcases k8 with k8 | ⟨b, hb, hl⟩
                  · exact O5.out.2.1 q (k8 ▸ h1) h2
                  · rw [hb] at h1; cases h1; have := (O5.out.1.2.lt _ h2).2; omega, O5.out.2.2.grown g8 O5.out.2.2.size fun e he => (O5.out.1.1.lt _ he).1⟩)
                clear o8 g8 k8 ov O5 hbs
                have ov := O6.out.1.2
                have hbs := O6.out.2.2.size
                have cc := HCK.out _ O6.out.2.2
                go_wp2_with (at_builtin; refine wpAppInt rfl _ _ rfl rfl ov (by rw [HFL.out]; omega) (by omega) rfl ?_)
                intro v9 w9 o9 g9 k9
                rw [← HFS.out] at o9
                have O7 := Lib.hid (show (Own w9 w.heap.size v8 (nodes (k + 1)) ∧ Own w9 w.heap.size v9 (frees ask asks (k + 1))) ∧ (∀ k, v8.ownBlock = some k → v9.ownBlock = some k → False) ∧ Below w.heap.size w w9 from ⟨⟨own_heap O6.out.1.1 fun q hq => g9.block q (O6.out.1.1.lt q hq).2 fun e => O6.out.2.1 q hq e.symm, o9⟩, fun q h1 h2 => by
                  rcases k9 with k9 | ⟨b, hb, hl⟩
                  · exact O6.out.2.1 q h1 (k9 ▸ h2)
                  · rw [hb] at h2; cases h2; have := (O6.out.1.1.lt _ h1).2; omega, O6.out.2.2.grown g9 O6.out.2.2.size fun e he => (O6.out.1.2.lt _ he).1⟩)
                clear o9 g9 k9 ov O6 hbs cc
                go_wp2
                go_roundw
                case rel => exact ⟨k + 1, by omega, by go_num, HEK, by rw [HU.out]; exact O7⟩
                case measure => simp [intOf]; omega
              · have hk2 : ¬ (k : Int) < (n : Int) - need := by omega
                obtain ⟨u1, u2⟩ := upTo_ge hkm
                have HU := Lib.hid u1
                clear u1 u2
                go_wp2
                go_roundw
                case rel => exact ⟨k + 1, by omega, by go_num, HEK, by rw [HU.out]; exact O5⟩
                case measure => simp [intOf]; omega
          · obtain rfl : k = n := by omega
            have hk1 : ¬ (k : Int) < (k : Int) := by omega
            have HX := Lib.hid (HY4.out hE.out)
            have HA2 := Lib.hid (HAT.out hE.out)
            have HO2 := Lib.hid (fun q hq => HOWN.out q hq (hE.out q (by omega)))
            obtain ⟨pv, hpv⟩ : ∃ pv : Value, pv = u9 := ⟨_, rfl⟩
            obtain ⟨vv, hvv⟩ : ∃ vv : Value, vv = u10 := ⟨_, rfl⟩
            rw [← hpv, ← hvv] at hO ⊢
            clear hpv hvv HAT HOWN HY3 HY4
            have FB := Lib.hid (show ∀ w', Below wo.heap.size wo w' → Ints w' pv (nodes m) ∧ Ints w' vv (frees ask asks m) ∧ Below w.heap.size w w' from fun w' hb => by
              have h9 := hO.out
              rw [(upTo_ge (show ¬ k < m by omega)).2] at h9
              exact ⟨(Ints.of_own h9.1.1 (by rw [nodes_len]; unfold maxLen; omega)).below hb, (Ints.of_own h9.1.2 (by rw [frees_len]; unfold maxLen; omega)).below hb, Below.on h9.2.2 hb⟩)
            clear hO hE
            go_wp2
            go_loopw [12] (fun i wr => ∃ j : Nat, j ≤ k ∧ m ≤ j ∧ i = .int .i64 j ∧ Hid (∀ q, q < j → L q = nth asks q) ∧ Hid (Below wo.heap.size wo wr)) (fun i _ => k - (intOf i).toNat)
            case atStart => exact ⟨m, by omega, by omega, by rw [m3], HO2, Lib.hid (Below.refl _ _)⟩
            case round =>
              obtain ⟨j, hj, hmj, rfl, hT, hB⟩ := hrel
              obtain ⟨wi, rfl⟩ : ∃ wi : World, wi = wr := ⟨_, rfl⟩
              by_cases hjn : j < k
              · have hj1 : (j : Int) < (k : Int) := by omega
                obtain ⟨X, rfl, c0⟩ := HC.out _ (FB.out _ hB.out).2.2 j hjn
                have HCK := Lib.hid (show ∀ w', Below w.heap.size w w' → w'.cell? ⟨X, j, none⟩ = some (.int .i64 (nth asks j)) from fun w' hb => by
                  obtain ⟨X9, e9, c9⟩ := HC.out w' hb j hjn
                  cases e9
                  exact c9)
                clear c0
                have HD : Hid (Below wo.heap.size wo wi.drew) := Lib.hid hB.out.drew
                go_wp2_with fail
                refine wp_region_class (C := fun w' => Hid (Below wo.heap.size wo w')) (by kernel_rfl) (by kernel_rfl) HD ?_
                repeat (first | go_big_quiet_skip | (go_big_quiet_want; go_big_quiet_op; first | go_big_quiet_on | (refine ⟨_, fun _ _ => rfl, ?_⟩; go_big_quiet_on)))
                go_big_quiet_want
                go_big_quiet_op
                go_big_quiet_call ((intro hw; exact (HA2.out j _ _ _ hjn (FB.out _ hw.out).1 (FB.out _ hw.out).2.1).mono fun _ _ ⟨he, hb⟩ => ⟨he, Lib.hid (Below.on hw.out hb)⟩))
                repeat (first | go_big_quiet_skip | (go_big_quiet_want; go_big_quiet_op; first | go_big_quiet_on | (refine ⟨_, fun _ _ => rfl, ?_⟩; go_big_quiet_on)))
                go_big_quiet_want
                go_big_quiet_op
                refine ⟨.int .i64 (nth asks j), fun w' hw' => ?_, ?_⟩
                · have q9 := HCK.out _ (FB.out _ hw'.out).2.2
                  simp [go_sem, q9]
                go_big_quiet_on
                repeat (first | go_big_quiet_skip | (go_big_quiet_want; go_big_quiet_op; first | go_big_quiet_on | (refine ⟨_, fun _ _ => rfl, ?_⟩; go_big_quiet_on)))
                refine wpQuiet_nil ?_
                intro w5 hw5
                by_cases hq : L j = nth asks j
                · have hne : (L j != nth asks j) = false := by simpa using hq
                  have HQ := Lib.hid hq
                  clear hq
                  go_wp2
                  go_roundw
                  case rel => exact ⟨j + 1, by omega, by omega, by go_num, Lib.hid fun q hq => by
                    by_cases e : q < j
                    · exact hT.out q e
                    · obtain rfl : q = j := by omega
                      exact HQ.out, hw5⟩
                  case measure => simp [intOf]; omega
                · have hne : (L j != nth asks j) = true := by simpa using hq
                  have HZ := Lib.hid (HNO.out j hjn hq)
                  clear hq
                  go_wp2
                  go_ret
                  exact ⟨by rw [HX.out, HZ.out]; rfl, (FB.out _ hw5.out).2.2⟩
              · obtain rfl : j = k := by omega
                have hj1 : ¬ (j : Int) < (j : Int) := by omega
                have HZ := Lib.hid (HY.out hT.out)
                clear hT
                go_wp2
                go_ret
                exact ⟨by rw [HX.out, HZ.out]; rfl, (FB.out _ hB.out).2.2⟩
  · have HE := Lib.hid (show min 4 (ord g - 1) = (ord g - 1) from Int.min_eq_right (by omega))
    cases hn1 : (decide (1 ≤ (n : Int)) && decide ((n : Int) ≤ (ord g - 1)))
    · have HX := Lib.hid (linB_no1 (need := need) (asks := asks) ask (show mnyB g asks.length need = false by rw [HN.out, HMM.out, HE.out, hn1]; rfl))
      go_enter Tryd.func24, Tryd.ntmps24
      go_wp2_with fail
      refine (sex_any g ask _).mono ?_
      rintro e w1 ⟨rfl, hb⟩
      rw [h2]
      have B1 := Lib.hid hb
      clear hb
      go_wp2_with fail
      refine (sord_any g _).mono ?_
      rintro e w2 ⟨rfl, hb⟩
      have B2 := Lib.hid (Below.on B1.out hb)
      clear hb
      go_wp2_with fail
      refine (l1In_any _ _ _ _).mono ?_
      rintro e w3 ⟨rfl, rfl⟩
      rw [hn1]
      go_wp2
      go_ret
      exact ⟨by rw [HX.out]; rfl, B2.out⟩
    · cases hn2 : (decide (1 ≤ need) && decide (need ≤ (n : Int)))
      · have HX := Lib.hid (linB_no1 (need := need) (asks := asks) ask (show mnyB g asks.length need = false by rw [HN.out, HMM.out, HE.out, hn1, hn2]; rfl))
        go_enter Tryd.func24, Tryd.ntmps24
        go_wp2_with fail
        refine (sex_any g ask _).mono ?_
        rintro e w1 ⟨rfl, hb⟩
        rw [h2]
        have B1 := Lib.hid hb
        clear hb
        go_wp2_with fail
        refine (sord_any g _).mono ?_
        rintro e w2 ⟨rfl, hb⟩
        have B2 := Lib.hid (Below.on B1.out hb)
        clear hb
        go_wp2_with fail
        refine (l1In_any _ _ _ _).mono ?_
        rintro e w3 ⟨rfl, rfl⟩
        rw [hn1]
        go_wp2_with fail
        refine (l1In_any _ _ _ _).mono ?_
        rintro e w3 ⟨rfl, rfl⟩
        rw [hn2]
        go_wp2
        go_ret
        exact ⟨by rw [HX.out]; rfl, B2.out⟩
      · have hmy : mnyB g n need = true := by rw [HMM.out, HE.out, hn1, hn2]; rfl
        go_enter Tryd.func24, Tryd.ntmps24
        go_wp2_with fail
        refine (sex_any g ask _).mono ?_
        rintro e w1 ⟨rfl, hb⟩
        rw [h2]
        have B1 := Lib.hid hb
        clear hb
        go_wp2_with fail
        refine (sord_any g _).mono ?_
        rintro e w2 ⟨rfl, hb⟩
        have B2 := Lib.hid (Below.on B1.out hb)
        clear hb
        go_wp2_with fail
        refine (l1In_any _ _ _ _).mono ?_
        rintro e w3 ⟨rfl, rfl⟩
        rw [hn1]
        go_wp2_with fail
        refine (l1In_any _ _ _ _).mono ?_
        rintro e w3 ⟨rfl, rfl⟩
        rw [hn2]
        have hm := mnyB_true.1 hmy
        obtain ⟨m1, m2, m3, m4⟩ := hm.ldN
        have n4 := hm.n4; have n1 := hm.n1; have nl := hm.lt; have d1 := hm.d1; have dn := hm.dn
        obtain ⟨m, hmm⟩ : ∃ m, leadN n need = m := ⟨_, rfl⟩
        rw [hmm] at m1 m2 m3 m4
        have HY3 := Lib.hid (show ∀ k, k < n → exB g (nth asks k) = false → linB g need ask asks = false from fun k hk e => linB_no3 (allEx_no (by rw [HN.out]; exact hk) e))
        have HY4 := Lib.hid (show (∀ k, k < n → exB g (nth asks k) = true) → linB g need ask asks = upB g m n ask asks from fun e => by rw [linB_yes (by rw [HN.out]; exact hmy) h2 (allEx_yes fun j hj => e j (by rw [← HN.out]; exact hj)), HN.out, hmm])
        obtain ⟨L, hL⟩ : ∃ f : Nat → Int, ∀ k : Nat, lag g (nodes m) (frees ask asks m) ((k : Int) + 1) = f k := ⟨_, fun _ => rfl⟩
        have HOWN := Lib.hid (show ∀ k, k < m → exB g (nth asks k) = true → L k = nth asks k from fun k hk e => by rw [← hL]; exact lag_own g0 g4 (by omega) m4 hk e)
        have HY := Lib.hid (show (∀ k, k < n → L k = nth asks k) → upB g m n ask asks = true from fun e => upB_true.2 fun k hk => by rw [hL]; exact e k hk)
        have HNO := Lib.hid (show ∀ k, k < n → L k ≠ nth asks k → upB g m n ask asks = false from fun k hk e => upB_false hk (by rw [hL]; exact e))
        have HAT := Lib.hid (show (∀ k, k < n → exB g (nth asks k) = true) → ∀ (k : Nat) (pv vv : Value) (w' : World), k < n → Ints w' pv (nodes m) → Ints w' vv (frees ask asks m) → Calls Tryd.prog 48 #[.int .i64 g, pv, vv, .int .i64 ((k : Int) + 1)] w' fun e w'' => e = .returned (.int .i64 (L k)) ∧ Below w'.heap.size w' w'' from fun hex k pv vv w' hk hp hv => by
          have := sat_any g ((k : Int) + 1) pv vv (nodes m) (frees ask asks m) w' hp hv (by rw [frees_len, nodes_len]) (by rw [nodes_len]; omega) (fun j hj => by rw [nodes_len] at hj; rw [nodes_nth m j (by omega)]; exact exB_true.2 ⟨⟨g0, g4⟩, by omega, by omega⟩) (fun j hj => by
            rw [nodes_len] at hj; rw [frees_nth ask asks m j (by omega)]
            by_cases e : j = 0
            · rw [if_pos e]; exact h2
            · rw [if_neg e]; exact hex (j - 1) (by omega)) (exB_true.2 ⟨⟨g0, g4⟩, by omega, by omega⟩) (nodes_apart g0 g4 (by omega) m4)
          rwa [hL] at this)
        have HNS := Lib.hid nodes_succ
        have HFS := Lib.hid (frees_succ ask asks)
        have HNL := Lib.hid nodes_len
        have HFL := Lib.hid (frees_len ask asks)
        have HN0 := Lib.hid (show nodes 0 = [0] from rfl)
        have HF0 := Lib.hid (show frees ask asks 0 = [ask] from rfl)
        clear hm hmm hL nl m4
        have A1 := Lib.hid (own_one w2 0)
        have BA := Lib.hid (below_grow w2 (.cells #[.int .i64 0] 3))
        obtain ⟨w8, hw8⟩ : ∃ w8, w8 = w2.alloc (.cells #[.int .i64 0] 3) := ⟨_, rfl⟩
        have hsz8 : w8.heap.size = w2.heap.size + 1 := by rw [hw8]; simp
        rw [← hw8] at A1 BA
        have A2 := Lib.hid (own_one w8 ask)
        have BC := Lib.hid (below_grow w8 (.cells #[.int .i64 ask] 3))
        have hs2 := B2.out.size
        have PR := Lib.hid (show (Own (w8.alloc (.cells #[.int .i64 ask] 3)) w.heap.size (.slice (some ⟨w2.heap.size, 0, none⟩) 1 1) [0] ∧ Own (w8.alloc (.cells #[.int .i64 ask] 3)) w.heap.size (.slice (some ⟨w2.heap.size + 1, 0, none⟩) 1 1) [ask]) ∧ (∀ k, (Value.slice (some ⟨w2.heap.size, 0, none⟩) 1 1).ownBlock = some k → (Value.slice (some ⟨w2.heap.size + 1, 0, none⟩) 1 1).ownBlock = some k → False) ∧ Below w.heap.size w (w8.alloc (.cells #[.int .i64 ask] 3)) from
          ⟨⟨own_mono (own_below A1.out BC.out) hs2, own_mono (by have := A2.out; rwa [hsz8] at this) (by omega)⟩, fun k e1 e2 => by simp [Value.ownBlock] at e1 e2; omega, Below.on B2.out (Below.on BA.out BC.out)⟩)
        rw [hw8] at PR
        clear A1 A2 BA BC hsz8 hw8
        go_wp2
        go_loopw [9, 10, 11] (fun pv vv i wr => ∃ k : Nat, k ≤ n ∧ i = .int .i64 k ∧ Hid (∀ q, q < k → exB g (nth asks q) = true) ∧ Hid ((Own wr w.heap.size pv (nodes (upTo m k)) ∧ Own wr w.heap.size vv (frees ask asks (upTo m k))) ∧ (∀ k, pv.ownBlock = some k → vv.ownBlock = some k → False) ∧ Below w.heap.size w wr)) (fun _ _ i _ => n - (intOf i).toNat)
        case atStart => exact ⟨0, by omega, rfl, Lib.hid fun q hq => by omega, by simp only [upTo, Nat.zero_le, if_true, HN0.out, HF0.out]; exact PR⟩
        case round =>
          obtain ⟨k, hk, rfl, hE, hO⟩ := hrel
          obtain ⟨wo, rfl⟩ : ∃ wo : World, wo = wr := ⟨_, rfl⟩
          clear PR
          by_cases hkn : k < n
          · have hk1 : (k : Int) < (n : Int) := by omega
            obtain ⟨X, rfl, c0⟩ := HC.out _ hO.out.2.2 k hkn
            cases he : exB g (nth asks k)
            · have HX := Lib.hid (HY3.out k hkn he)
              go_wp2_with fail
              refine (sex_any g (nth asks k) _).mono ?_
              rintro e w5 ⟨rfl, hb⟩
              rw [he]
              have B5 := Lib.hid (Below.on hO.out.2.2 hb)
              clear hb c0
              go_wp2
              go_ret
              exact ⟨by rw [HX.out]; rfl, B5.out⟩
            · have HEK := Lib.hid (show ∀ q, q < k + 1 → exB g (nth asks q) = true from fun q hq => by
                by_cases e : q < k
                · exact hE.out q e
                · obtain rfl : q = k := by omega
                  exact he)
              have HCK := Lib.hid (show ∀ w', Below w.heap.size w w' → w'.cell? ⟨X, k, none⟩ = some (.int .i64 (nth asks k)) from fun w' hb => by
                obtain ⟨X9, e9, c9⟩ := HC.out w' hb k hkn
                cases e9
                exact c9)
              go_wp2_with fail
              refine (sex_any g (nth asks k) _).mono ?_
              rintro e w5 ⟨rfl, hb⟩
              rw [he]
              have O5 := Lib.hid (show (Own w5 w.heap.size u9 (nodes (upTo m k)) ∧ Own w5 w.heap.size u10 (frees ask asks (upTo m k))) ∧ (∀ k, u9.ownBlock = some k → u10.ownBlock = some k → False) ∧ Below w.heap.size w w5 from ⟨⟨own_below hO.out.1.1 hb, own_below hO.out.1.2 hb⟩, hO.out.2.1, Below.on hO.out.2.2 hb⟩)
              clear hb c0 hO hE
              by_cases hkm : k < m
              · have hk2 : (k : Int) < (n : Int) - need := by omega
                obtain ⟨u1, u2⟩ := upTo_lt hkm
                rw [u2] at O5 u1
                have HU := Lib.hid u1
                clear u1 u2
                have ov := O5.out.1.1
                have hbs := O5.out.2.2.size
                go_upto_region 12 with (at_builtin; refine wpAppInt rfl _ _ rfl rfl ov (by rw [HNL.out]; omega) (by omega) rfl ?_)
                intro v8 w8 o8 g8 k8
                rw [← HNS.out] at o8
                have O6 := Lib.hid (show (Own w8 w.heap.size v8 (nodes (k + 1)) ∧ Own w8 w.heap.size u10 (frees ask asks k)) ∧ (∀ k, v8.ownBlock = some k → u10.ownBlock = some k → False) ∧ Below w.heap.size w w8 from ⟨⟨o8, own_heap O5.out.1.2 fun q hq => g8.block q (O5.out.1.2.lt q hq).2 fun e => O5.out.2.1 q e.symm hq⟩, fun q h1 h2 => by
                  rcases k8 with k8 | ⟨b, hb, hl⟩
                  · exact O5.out.2.1 q (k8 ▸ h1) h2
                  · rw [hb] at h1; cases h1; have := (O5.out.1.2.lt _ h2).2; omega, O5.out.2.2.grown g8 O5.out.2.2.size fun e he => (O5.out.1.1.lt _ he).1⟩)
                clear o8 g8 k8 ov O5 hbs
                have ov := O6.out.1.2
                have hbs := O6.out.2.2.size
                have cc := HCK.out _ O6.out.2.2
                go_wp2_with (at_builtin; refine wpAppInt rfl _ _ rfl rfl ov (by rw [HFL.out]; omega) (by omega) rfl ?_)
                intro v9 w9 o9 g9 k9
                rw [← HFS.out] at o9
                have O7 := Lib.hid (show (Own w9 w.heap.size v8 (nodes (k + 1)) ∧ Own w9 w.heap.size v9 (frees ask asks (k + 1))) ∧ (∀ k, v8.ownBlock = some k → v9.ownBlock = some k → False) ∧ Below w.heap.size w w9 from ⟨⟨own_heap O6.out.1.1 fun q hq => g9.block q (O6.out.1.1.lt q hq).2 fun e => O6.out.2.1 q hq e.symm, o9⟩, fun q h1 h2 => by
                  rcases k9 with k9 | ⟨b, hb, hl⟩
                  · exact O6.out.2.1 q h1 (k9 ▸ h2)
                  · rw [hb] at h2; cases h2; have := (O6.out.1.1.lt _ h1).2; omega, O6.out.2.2.grown g9 O6.out.2.2.size fun e he => (O6.out.1.2.lt _ he).1⟩)
                clear o9 g9 k9 ov O6 hbs cc
                go_wp2
                go_roundw
                case rel => exact ⟨k + 1, by omega, by go_num, HEK, by rw [HU.out]; exact O7⟩
                case measure => simp [intOf]; omega
              · have hk2 : ¬ (k : Int) < (n : Int) - need := by omega
                obtain ⟨u1, u2⟩ := upTo_ge hkm
                have HU := Lib.hid u1
                clear u1 u2
                go_wp2
                go_roundw
                case rel => exact ⟨k + 1, by omega, by go_num, HEK, by rw [HU.out]; exact O5⟩
                case measure => simp [intOf]; omega
          · obtain rfl : k = n := by omega
            have hk1 : ¬ (k : Int) < (k : Int) := by omega
            have HX := Lib.hid (HY4.out hE.out)
            have HA2 := Lib.hid (HAT.out hE.out)
            have HO2 := Lib.hid (fun q hq => HOWN.out q hq (hE.out q (by omega)))
            obtain ⟨pv, hpv⟩ : ∃ pv : Value, pv = u9 := ⟨_, rfl⟩
            obtain ⟨vv, hvv⟩ : ∃ vv : Value, vv = u10 := ⟨_, rfl⟩
            rw [← hpv, ← hvv] at hO ⊢
            clear hpv hvv HAT HOWN HY3 HY4
            have FB := Lib.hid (show ∀ w', Below wo.heap.size wo w' → Ints w' pv (nodes m) ∧ Ints w' vv (frees ask asks m) ∧ Below w.heap.size w w' from fun w' hb => by
              have h9 := hO.out
              rw [(upTo_ge (show ¬ k < m by omega)).2] at h9
              exact ⟨(Ints.of_own h9.1.1 (by rw [nodes_len]; unfold maxLen; omega)).below hb, (Ints.of_own h9.1.2 (by rw [frees_len]; unfold maxLen; omega)).below hb, Below.on h9.2.2 hb⟩)
            clear hO hE
            go_wp2
            go_loopw [12] (fun i wr => ∃ j : Nat, j ≤ k ∧ m ≤ j ∧ i = .int .i64 j ∧ Hid (∀ q, q < j → L q = nth asks q) ∧ Hid (Below wo.heap.size wo wr)) (fun i _ => k - (intOf i).toNat)
            case atStart => exact ⟨m, by omega, by omega, by rw [m3], HO2, Lib.hid (Below.refl _ _)⟩
            case round =>
              obtain ⟨j, hj, hmj, rfl, hT, hB⟩ := hrel
              obtain ⟨wi, rfl⟩ : ∃ wi : World, wi = wr := ⟨_, rfl⟩
              by_cases hjn : j < k
              · have hj1 : (j : Int) < (k : Int) := by omega
                obtain ⟨X, rfl, c0⟩ := HC.out _ (FB.out _ hB.out).2.2 j hjn
                have HCK := Lib.hid (show ∀ w', Below w.heap.size w w' → w'.cell? ⟨X, j, none⟩ = some (.int .i64 (nth asks j)) from fun w' hb => by
                  obtain ⟨X9, e9, c9⟩ := HC.out w' hb j hjn
                  cases e9
                  exact c9)
                clear c0
                have HD : Hid (Below wo.heap.size wo wi.drew) := Lib.hid hB.out.drew
                go_wp2_with fail
                refine wp_region_class (C := fun w' => Hid (Below wo.heap.size wo w')) (by kernel_rfl) (by kernel_rfl) HD ?_
                repeat (first | go_big_quiet_skip | (go_big_quiet_want; go_big_quiet_op; first | go_big_quiet_on | (refine ⟨_, fun _ _ => rfl, ?_⟩; go_big_quiet_on)))
                go_big_quiet_want
                go_big_quiet_op
                go_big_quiet_call ((intro hw; exact (HA2.out j _ _ _ hjn (FB.out _ hw.out).1 (FB.out _ hw.out).2.1).mono fun _ _ ⟨he, hb⟩ => ⟨he, Lib.hid (Below.on hw.out hb)⟩))
                repeat (first | go_big_quiet_skip | (go_big_quiet_want; go_big_quiet_op; first | go_big_quiet_on | (refine ⟨_, fun _ _ => rfl, ?_⟩; go_big_quiet_on)))
                go_big_quiet_want
                go_big_quiet_op
                refine ⟨.int .i64 (nth asks j), fun w' hw' => ?_, ?_⟩
                · have q9 := HCK.out _ (FB.out _ hw'.out).2.2
                  simp [go_sem, q9]
                go_big_quiet_on
                repeat (first | go_big_quiet_skip | (go_big_quiet_want; go_big_quiet_op; first | go_big_quiet_on | (refine ⟨_, fun _ _ => rfl, ?_⟩; go_big_quiet_on)))
                refine wpQuiet_nil ?_
                intro w5 hw5
                by_cases hq : L j = nth asks j
                · have hne : (L j != nth asks j) = false := by simpa using hq
                  have HQ := Lib.hid hq
                  clear hq
                  go_wp2
                  go_roundw
                  case rel => exact ⟨j + 1, by omega, by omega, by go_num, Lib.hid fun q hq => by
                    by_cases e : q < j
                    · exact hT.out q e
                    · obtain rfl : q = j := by omega
                      exact HQ.out, hw5⟩
                  case measure => simp [intOf]; omega
                · have hne : (L j != nth asks j) = true := by simpa using hq
                  have HZ := Lib.hid (HNO.out j hjn hq)
                  clear hq
                  go_wp2
                  go_ret
                  exact ⟨by rw [HX.out, HZ.out]; rfl, (FB.out _ hw5.out).2.2⟩
              · obtain rfl : j = k := by omega
                have hj1 : ¬ (j : Int) < (j : Int) := by omega
                have HZ := Lib.hid (HY.out hT.out)
                clear hT
                go_wp2
                go_ret
                exact ⟨by rw [HX.out, HZ.out]; rfl, (FB.out _ hB.out).2.2⟩
end Go.Proofs.YtacalanlepjljaaDoor
