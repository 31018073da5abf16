/- impl.SomeOf. -/
import Derived.Test.YtljekapbcphdaabDoorSofK
import Derived.Deep.Cut
namespace Go.Proofs.YtljekapbcphdaabDoor
open Go.RowKit

set_option maxRecDepth 20000 in
set_option maxHeartbeats 12800000 in
theorem isof_any (g need ask : Int) (kv sv fv gv : Value) (keys secrets first second : List Int) (w : World) (G : Gr w) (hk : Ints w kv keys) (hs : Ints w sv secrets) (hf : Ints w fv first) (hg : Ints w gv second) :
    Calls Tryd.prog 86 #[.int .i64 g, kv, .int .i64 need, sv, fv, gv, .int .i64 ask] w fun e w' => ∃ sv xv tv, e = .returned (.tuple #[.agg #[sv, .int .i64 (sQ (sofB g keys need secrets first second ask) ask), xv, tv], .bool (sofB g keys need secrets first second ask)]) ∧ OwnS w' w.heap.size w'.heap.size sv xv tv (sL (sofB g keys need secrets first second ask) (mapTo (sofS g keys secrets first second) keys.length)) (sL (sofB g keys need secrets first second ask) (mapTo (sofX g secrets first ask keys.length) keys.length)) (sL (sofB g keys need secrets first second ask) (mapTo (sofT g secrets first second ask keys.length) keys.length)) ∧ Below w.heap.size w w' := by
  obtain ⟨ka, kc, rfl, k0⟩ := hk.opened
  obtain ⟨sa, sc, rfl, k1⟩ := hs.opened
  obtain ⟨fa, fc, rfl, k2⟩ := hf.opened
  obtain ⟨ga, gc, rfl, k3⟩ := hg.opened
  obtain ⟨n, hn⟩ : ∃ n, keys.length = n := ⟨_, rfl⟩
  have HN := Lib.hid hn
  have HG := Lib.hid G
  obtain ⟨lK, hK⟩ : ∃ n, keys.length = n := ⟨_, rfl⟩
  have HLK := Lib.hid hK
  have HCK := Lib.hid (show ∀ k, k < lK → ∃ X, ka = some ⟨X, 0, none⟩ ∧ ∀ w', Below w.heap.size w w' → w'.cell? ⟨X, k, none⟩ = some (.int .i64 (nth keys k)) from fun k hk => by
    obtain ⟨M, e1, hl, e2⟩ := k0.get k (by omega)
    exact ⟨M, e1, fun w' hb => (hb.cell (p := ⟨M, k, none⟩) hl).trans e2⟩)
  rw [hK] at hk
  have Hhk := Lib.hid hk
  obtain ⟨lS, hS⟩ : ∃ n, secrets.length = n := ⟨_, rfl⟩
  have HLS := Lib.hid hS
  have HCS := Lib.hid (show ∀ k, k < lS → ∃ X, sa = some ⟨X, 0, none⟩ ∧ ∀ w', Below w.heap.size w w' → w'.cell? ⟨X, k, none⟩ = some (.int .i64 (nth secrets k)) from fun k hk => by
    obtain ⟨M, e1, hl, e2⟩ := k1.get k (by omega)
    exact ⟨M, e1, fun w' hb => (hb.cell (p := ⟨M, k, none⟩) hl).trans e2⟩)
  rw [hS] at hs
  have Hhs := Lib.hid hs
  obtain ⟨lF, hF⟩ : ∃ n, first.length = n := ⟨_, rfl⟩
  have HLF := Lib.hid hF
  have HCF := Lib.hid (show ∀ k, k < lF → ∃ X, fa = some ⟨X, 0, none⟩ ∧ ∀ w', Below w.heap.size w w' → w'.cell? ⟨X, k, none⟩ = some (.int .i64 (nth first k)) from fun k hk => by
    obtain ⟨M, e1, hl, e2⟩ := k2.get k (by omega)
    exact ⟨M, e1, fun w' hb => (hb.cell (p := ⟨M, k, none⟩) hl).trans e2⟩)
  rw [hF] at hf
  have Hhf := Lib.hid hf
  obtain ⟨lG, hG⟩ : ∃ n, second.length = n := ⟨_, rfl⟩
  have HLG := Lib.hid hG
  have HCG := Lib.hid (show ∀ k, k < lG → ∃ X, ga = some ⟨X, 0, none⟩ ∧ ∀ w', Below w.heap.size w w' → w'.cell? ⟨X, k, none⟩ = some (.int .i64 (nth second k)) from fun k hk => by
    obtain ⟨M, e1, hl, e2⟩ := k3.get k (by omega)
    exact ⟨M, e1, fun w' hb => (hb.cell (p := ⟨M, k, none⟩) hl).trans e2⟩)
  rw [hG] at hg
  have Hhg := Lib.hid hg
  have hlk : lK = n := by rw [← hK, hn]
  subst hlk
  have mx := k1.max
  rw [hS] at mx
  unfold maxLen at mx
  rw [hK, hS, hF, hG]
  clear hk hs hf hg k0 k1 k2 k3 G hn hK hS hF hG HN
  obtain ⟨W0, hW0⟩ : ∃ W, W = w.alloc (.cells #[.slice none 0 0, .int .i64 0, .slice none 0 0, .slice none 0 0] 75) := ⟨_, rfl⟩
  have ZB := Lib.hid (show ∀ w', Below W0.heap.size W0 w' → Box w' w.heap.size [.slice none 0 0, .int .i64 0, .slice none 0 0, .slice none 0 0] ∧ Below w.heap.size w w' from fun w' hb => by rw [hW0] at hb; exact ⟨(Box.made w _ _).on hb, Below.on (below_grow w _) hb⟩)
  have T0 := Lib.hid (Below.refl W0.heap.size W0)
  have hz0 : W0.heap.size = w.heap.size + 1 := by rw [hW0]; simp
  cases h1 : knoB g keys need secrets
  · have HX := Lib.hid (show sofB g keys need secrets first second ask = false by unfold sofB; rw [h1]; rfl)
    go_enter Tryd.func86, Tryd.ntmps86
    go_wp2_with fail
    rw [← hW0]
    clear hW0
    refine (iknown_any g need _ _ keys secrets _ (HG.out.on (ZB.out _ T0.out).2) (Hhk.out.below (ZB.out _ T0.out).2) (Hhs.out.below (ZB.out _ T0.out).2)).mono ?_
    rintro e w1 ⟨rfl, hb⟩
    rw [h1]
    have T1 := Lib.hid hb
    clear hb
    have zb := Lib.hid (ZB.out _ T1.out)
    have z0 := zb.out.1.cell 0; have z1 := zb.out.1.cell 1; have z2 := zb.out.1.cell 2; have z3 := zb.out.1.cell 3; have f0 := zb.out.1.frozen 0; have f1 := zb.out.1.frozen 1; have f2 := zb.out.1.frozen 2; have f3 := zb.out.1.frozen 3
    simp at z0 z1 z2 z3
    go_wp2
    refine bodyPost_ret (v := .tuple #[.agg #[.slice none 0 0, .int .i64 0, .slice none 0 0, .slice none 0 0], .bool false]) ?_ rfl ?_
    · simp [results, Tryd.results86, go_sem, z0, z1, z2, z3]
    · refine ⟨_, _, _, by rw [HX.out]; rfl, by rw [HX.out]; exact OwnS.nil _ _ _, ?_⟩
      exact (((zb.out.2.setCell (Nat.le_refl _) _).setCell (Nat.le_refl _) _).setCell (Nat.le_refl _) _).setCell (Nat.le_refl _) _
  cases h2 : freB g secrets first second
  · have HX := Lib.hid (show sofB g keys need secrets first second ask = false by unfold sofB; rw [h1, h2]; rfl)
    go_enter Tryd.func86, Tryd.ntmps86
    go_wp2_with fail
    rw [← hW0]
    clear hW0
    refine (iknown_any g need _ _ keys secrets _ (HG.out.on (ZB.out _ T0.out).2) (Hhk.out.below (ZB.out _ T0.out).2) (Hhs.out.below (ZB.out _ T0.out).2)).mono ?_
    rintro e w1 ⟨rfl, hb⟩
    rw [h1]
    have T1 := Lib.hid hb
    clear hb
    go_wp2_with fail
    refine (ifree_any g _ _ _ secrets first second _ (HG.out.on (ZB.out _ T1.out).2) (Hhs.out.below (ZB.out _ T1.out).2) (Hhf.out.below (ZB.out _ T1.out).2) (Hhg.out.below (ZB.out _ T1.out).2)).mono ?_
    rintro e w2 ⟨rfl, hb⟩
    rw [h2]
    have T2 := Lib.hid (Below.on T1.out hb)
    clear hb
    have zb := Lib.hid (ZB.out _ T2.out)
    have z0 := zb.out.1.cell 0; have z1 := zb.out.1.cell 1; have z2 := zb.out.1.cell 2; have z3 := zb.out.1.cell 3; have f0 := zb.out.1.frozen 0; have f1 := zb.out.1.frozen 1; have f2 := zb.out.1.frozen 2; have f3 := zb.out.1.frozen 3
    simp at z0 z1 z2 z3
    go_wp2
    refine bodyPost_ret (v := .tuple #[.agg #[.slice none 0 0, .int .i64 0, .slice none 0 0, .slice none 0 0], .bool false]) ?_ rfl ?_
    · simp [results, Tryd.results86, go_sem, z0, z1, z2, z3]
    · refine ⟨_, _, _, by rw [HX.out]; rfl, by rw [HX.out]; exact OwnS.nil _ _ _, ?_⟩
      exact (((zb.out.2.setCell (Nat.le_refl _) _).setCell (Nat.le_refl _) _).setCell (Nat.le_refl _) _).setCell (Nat.le_refl _) _
  cases h3 : exB g ask
  · have HX := Lib.hid (show sofB g keys need secrets first second ask = false by unfold sofB; rw [h1, h2, h3]; rfl)
    go_enter Tryd.func86, Tryd.ntmps86
    go_wp2_with fail
    rw [← hW0]
    clear hW0
    refine (iknown_any g need _ _ keys secrets _ (HG.out.on (ZB.out _ T0.out).2) (Hhk.out.below (ZB.out _ T0.out).2) (Hhs.out.below (ZB.out _ T0.out).2)).mono ?_
    rintro e w1 ⟨rfl, hb⟩
    rw [h1]
    have T1 := Lib.hid hb
    clear hb
    go_wp2_with fail
    refine (ifree_any g _ _ _ secrets first second _ (HG.out.on (ZB.out _ T1.out).2) (Hhs.out.below (ZB.out _ T1.out).2) (Hhf.out.below (ZB.out _ T1.out).2) (Hhg.out.below (ZB.out _ T1.out).2)).mono ?_
    rintro e w2 ⟨rfl, hb⟩
    rw [h2]
    have T2 := Lib.hid (Below.on T1.out hb)
    clear hb
    go_wp2_with fail
    refine (iex_l g ask _ (HG.out.on (ZB.out _ T2.out).2)).mono ?_
    rintro e w3 ⟨rfl, hb⟩
    rw [h3]
    have T3 := Lib.hid (Below.on T2.out hb)
    clear hb
    have zb := Lib.hid (ZB.out _ T3.out)
    have z0 := zb.out.1.cell 0; have z1 := zb.out.1.cell 1; have z2 := zb.out.1.cell 2; have z3 := zb.out.1.cell 3; have f0 := zb.out.1.frozen 0; have f1 := zb.out.1.frozen 1; have f2 := zb.out.1.frozen 2; have f3 := zb.out.1.frozen 3
    simp at z0 z1 z2 z3
    go_wp2
    refine bodyPost_ret (v := .tuple #[.agg #[.slice none 0 0, .int .i64 0, .slice none 0 0, .slice none 0 0], .bool false]) ?_ rfl ?_
    · simp [results, Tryd.results86, go_sem, z0, z1, z2, z3]
    · refine ⟨_, _, _, by rw [HX.out]; rfl, by rw [HX.out]; exact OwnS.nil _ _ _, ?_⟩
      exact (((zb.out.2.setCell (Nat.le_refl _) _).setCell (Nat.le_refl _) _).setCell (Nat.le_refl _) _).setCell (Nat.le_refl _) _
  have HX := Lib.hid (show sofB g keys need secrets first second ask = true by unfold sofB; rw [h1, h2, h3]; rfl)
  have SF := sofB_true.1 HX.out
  have E1 : lS = lK := by rw [← HLS.out, ← HLK.out]; exact SF.l1
  have E2 : lF = lK := by rw [← HLF.out, ← HLK.out]; exact SF.l2
  have E3 : lG = lK := by rw [← HLG.out, ← HLK.out]; exact SF.l3
  have n4 : lK ≤ 4 := by rw [← HLK.out]; exact SF.k.m.n4
  have n1 : 1 ≤ lK := by rw [← HLK.out]; exact SF.k.m.n1
  have nl : (lK : Int) < ord g := by rw [← HLK.out]; exact SF.k.m.lt
  have g0 := SF.k.m.g0; have g4 := SF.k.m.g4
  have HE := Lib.hid (show lS = lK ∧ lF = lK ∧ lG = lK from ⟨E1, E2, E3⟩)
  have HEF := Lib.hid (show ∀ k, k < lK → exB g (nth first k) = true from fun k hk => allEx_at SF.e1 (by rw [HLF.out, E2]; exact hk))
  have HEG := Lib.hid (show ∀ k, k < lK → exB g (nth second k) = true from fun k hk => allEx_at SF.e2 (by rw [HLG.out, E3]; exact hk))
  have HEK := Lib.hid (show ∀ k, k < lK → elB g (nth keys k) = true from fun k hk => allEl_at SF.k.el (by rw [HLK.out]; exact hk))
  have HES := Lib.hid (show ∀ k, k < lK → nth secrets k ≠ -1 → exB g (nth secrets k) = true from fun k hk hne => by
    rcases SF.kn k (by rw [HLK.out]; exact hk) with h | h
    · exact absurd h hne
    · exact key_ex h (HEK.out k hk))
  have HOK := Lib.hid (unkP_ok (secrets := secrets) g0 g4 n4 nl SF.a HEF.out)
  have HPX := Lib.hid (show ∀ k, k < lK → exB g ((k : Int) + 1) = true from fun k hk => exB_true.2 ⟨⟨g0, g4⟩, by omega, by omega⟩)
  obtain ⟨FS, hFS⟩ : ∃ f, f = sofS g keys secrets first second := ⟨_, rfl⟩
  obtain ⟨FX, hFX⟩ : ∃ f, f = sofX g secrets first ask lK := ⟨_, rfl⟩
  obtain ⟨FT, hFT⟩ : ∃ f, f = sofT g secrets first second ask lK := ⟨_, rfl⟩
  obtain ⟨QQ, hQQ⟩ : ∃ f, f = sofQ g secrets first ask lK := ⟨_, rfl⟩
  have HMU := Lib.hid (show ∀ k, nth secrets k = -1 → sayUp g (nth keys k) (nth first k) (nth second k) = FS k ∧ nth first k = FX k ∧ nth second k = FT k from fun k h => by rw [hFS, hFX, hFT]; unfold sofS sofX sofT; rw [if_pos h, if_pos h, if_pos h]; exact ⟨rfl, rfl, rfl⟩)
  have HMK := Lib.hid (show ∀ k, nth secrets k ≠ -1 → gp g (bas g) (nth first k) = FS k ∧ QQ k = FX k ∧ tellOf g (nth secrets k) (nth first k) (QQ k) = FT k from fun k h => by rw [hFS, hFX, hFT, hQQ]; unfold sofS sofX sofT; rw [if_neg h, if_neg h, if_neg h]; exact ⟨rfl, rfl, rfl⟩)
  have HQX := Lib.hid (show ∀ k, exB g (QQ k) = true from fun k => by rw [hQQ]; exact lag_ex g0 g4 _ _ _)
  have HMS := Lib.hid (fun k => mapTo_succ FS k)
  have HMX := Lib.hid (fun k => mapTo_succ FX k)
  have HMT := Lib.hid (fun k => mapTo_succ FT k)
  have HM0 := Lib.hid (show ∀ f, mapTo f 0 = [] from fun _ => rfl)
  have HMLS := Lib.hid (mapTo_len FS)
  have HMLX := Lib.hid (mapTo_len FX)
  have HMLT := Lib.hid (mapTo_len FT)
  have HRS := Lib.hid (show mapTo (sofS g keys secrets first second) lK = mapTo FS lK by rw [hFS])
  have HRX := Lib.hid (show mapTo (sofX g secrets first ask lK) lK = mapTo FX lK by rw [hFX])
  have HRT := Lib.hid (show mapTo (sofT g secrets first second ask lK) lK = mapTo FT lK by rw [hFT])
  have HAT := Lib.hid (show ∀ (k : Nat) (v : Value) (B : Nat) (w' : World), k < lK → Gr w' → OwnA w' B v (unkP secrets first ask lK) → Calls Tryd.prog 108 #[.int .i64 g, v, .int .i64 ((k : Int) + 1)] w' fun e w'' => e = .returned (.int .i64 (QQ k)) ∧ Below w'.heap.size w' w'' from fun k v B w' hk G' ho => by
    have := ithere_any g ((k : Int) + 1) v (unkP secrets first ask lK) B w' G' ho HOK.out (HPX.out k hk)
    rw [hQQ]; exact this)
  have HU0 := Lib.hid (show unkP secrets first ask 0 = [(0, ask)] from rfl)
  have HUY := Lib.hid (fun k (h : nth secrets k = -1) => unkP_yes (first := first) (ask := ask) h)
  have HUN := Lib.hid (fun k (h : nth secrets k ≠ -1) => unkP_no (first := first) (ask := ask) h)
  have HUL := Lib.hid (unkP_len secrets first ask)
  obtain ⟨i0, hi, hz9, hz1, hz2⟩ := info_parts infoAt
  clear SF hFS hFX hFT hQQ g0 g4 nl E1 E2 E3
  go_enter Tryd.func86, Tryd.ntmps86
  go_wp2_with fail
  rw [← hW0]
  clear hW0
  refine (iknown_any g need _ _ keys secrets _ (HG.out.on (ZB.out _ T0.out).2) (Hhk.out.below (ZB.out _ T0.out).2) (Hhs.out.below (ZB.out _ T0.out).2)).mono ?_
  rintro e w1 ⟨rfl, hb⟩
  rw [h1]
  have T1 := Lib.hid hb
  clear hb
  go_wp2_with fail
  refine (ifree_any g _ _ _ secrets first second _ (HG.out.on (ZB.out _ T1.out).2) (Hhs.out.below (ZB.out _ T1.out).2) (Hhf.out.below (ZB.out _ T1.out).2) (Hhg.out.below (ZB.out _ T1.out).2)).mono ?_
  rintro e w2 ⟨rfl, hb⟩
  rw [h2]
  have T2 := Lib.hid (Below.on T1.out hb)
  clear hb
  go_wp2_with fail
  refine (iex_l g ask _ (HG.out.on (ZB.out _ T2.out).2)).mono ?_
  rintro e w3 ⟨rfl, hb⟩
  rw [h3]
  have T3 := Lib.hid (Below.on T2.out hb)
  clear hb
  have BA := Lib.hid (show OwnA (w3.alloc (.cells #[.int .i64 0, .int .i64 ask] 91)) W0.heap.size (.slice (some ⟨w3.heap.size, 0, none⟩) 1 1) [(0, ask)] from ownA_mono (ownA_one w3 0 ask) T3.out.size)
  have BB := Lib.hid (Below.on T3.out (below_grow w3 (.cells #[.int .i64 0, .int .i64 ask] 91)))
  go_wp2
  go_loopw [16, 49] (fun v i wr => ∃ k : Nat, k ≤ lS ∧ i = .int .i64 k ∧ Hid (OwnA wr W0.heap.size v (unkP secrets first ask k) ∧ Below W0.heap.size W0 wr)) (fun _ i _ => lS - (intOf i).toNat)
  case atStart => exact ⟨0, by omega, rfl, Lib.hid ⟨by rw [HU0.out]; exact BA.out, BB.out⟩⟩
  case round =>
    clear BA BB
    obtain ⟨k, hk, rfl, hO⟩ := hrel
    obtain ⟨wo, rfl⟩ : ∃ wo : World, wo = wr := ⟨_, rfl⟩
    by_cases hkn : k < lS
    · have hk1 : (k : Int) < (lS : Int) := by omega
      obtain ⟨X, rfl, hc⟩ := HCS.out k hkn
      have c0 := hc _ (ZB.out _ hO.out.2).2
      clear hc
      by_cases hu : nth secrets k = -1
      · have hb : (nth secrets k == -1) = true := by simpa using hu
        have HUK := Lib.hid (HUY.out k hu)
        clear hu
        obtain ⟨E1, E2, E3⟩ := HE.out
        obtain ⟨Y, rfl, hd⟩ := HCF.out k (by omega)
        have d0 := hd _ (ZB.out _ hO.out.2).2
        have hf1 : (k : Int) < (lF : Int) := by omega
        have hk4 : k ≤ 4 := by omega
        clear hd E1 E2 E3
        have hs4 := hO.out.2.size
        have hown3 := hO.out.1
        have hln := (HUL.out k).2
        obtain ⟨D, hD⟩ : ∃ D, unkP secrets first ask k = D := ⟨_, rfl⟩
        rw [hD] at hown3 hln HUK
        clear hD
        go_wp2_with (at_builtin; refine wpList_append_own _ rfl _ _ 92 rfl W0.heap.size 91 i0 (.agg #[.int .i64 0, .int .i64 0]) 2 16 Tryd.underlying92 hi hz9 hz1 hz2 rfl (by decide) _ _ _ rfl (hown3.alloc _) ⟨wo.heap.size, 0, none⟩ 1 1 [.int .i64 ((k : Int) + 1), .int .i64 (nth first k)] rfl rfl ?c1 ?c2 ?c3 ?c4 ?c5 ?_)
        case c1 =>
          intro j u hj
          match j, hj with
          | 0, hj => simp at hj; subst hj; simp [Addr.add]
          | 1, hj => simp at hj; subst hj; simp [Addr.add]
        case c2 => intro u hu; simp at hu; rcases hu with rfl | rfl <;> rfl
        case c3 => unfold maxLen; omega
        case c4 => omega
        case c5 => simp at hs4 ⊢; omega
        · intro v' w4 hown' hgrow _
          have RR := Lib.hid (ownA_step (w := W0) hown3 (Nat.le_refl _) hO.out.2 (by rw [hz0]; exact hown') hgrow)
          clear hown' hgrow hown3 c0 d0
          go_wp2
          go_roundw
          case rel => exact ⟨k + 1, by omega, by go_num, Lib.hid ⟨by rw [HUK.out]; exact RR.out.1, RR.out.2⟩⟩
          case measure => simp [intOf]; omega
      · have hb : (nth secrets k == -1) = false := by simpa using hu
        have HUK := Lib.hid (HUN.out k hu)
        clear hu
        go_wp2
        go_roundw
        case rel => exact ⟨k + 1, by omega, by go_num, Lib.hid ⟨by rw [HUK.out]; exact hO.out.1, hO.out.2⟩⟩
        case measure => simp [intOf]; omega
    · obtain rfl : k = lS := by omega
      have hk1 : ¬ (k : Int) < (k : Int) := by omega
      obtain ⟨vf, hvf⟩ : ∃ vf : Value, vf = u16 := ⟨_, rfl⟩
      rw [← hvf] at hO ⊢
      clear hvf
      have S0 := Lib.hid (show S3 wo wo.heap.size ask (.slice none 0 0) (.slice none 0 0) (.slice none 0 0) [] [] [] (wo.alloc (.cells #[.slice none 0 0, .int .i64 ask, .slice none 0 0, .slice none 0 0] 75)) from ⟨below_grow _ _, Nat.le_refl _, Box.made wo _ _, World.ownsRow_nil _ _ _ _, World.ownsRow_nil _ _ _ _, World.ownsRow_nil _ _ _ _, fun k hk => by simp [Value.ownBlock] at hk, fun k hk => by simp [Value.ownBlock] at hk, fun k hk => by simp [Value.ownBlock] at hk⟩)
      have FB := Lib.hid (show ∀ w', Below wo.heap.size wo w' → (Gr w' ∧ OwnA w' W0.heap.size vf (unkP secrets first ask k)) ∧ Box w' w.heap.size [.slice none 0 0, .int .i64 0, .slice none 0 0, .slice none 0 0] ∧ Below w.heap.size w w' from fun w' hb => ⟨⟨HG.out.on (ZB.out _ (Below.on hO.out.2 hb)).2, ownA_below hO.out.1 hb⟩, ZB.out _ (Below.on hO.out.2 hb)⟩)
      have hwo : W0.heap.size ≤ wo.heap.size := hO.out.2.size
      clear hO
      go_wp2
      go_loopw [71] (fun i wr => ∃ (j : Nat) (sv xv tv : Value), j ≤ k ∧ i = .int .i64 j ∧ Hid (S3 wo wo.heap.size ask sv xv tv (mapTo FS j) (mapTo FX j) (mapTo FT j) wr)) (fun i _ => k - (intOf i).toNat)
      case atStart => exact ⟨0, _, _, _, by omega, rfl, by rw [HM0.out, HM0.out, HM0.out]; exact S0⟩
      case round =>
        clear S0
        obtain ⟨j, sv, xv, tv, hj, rfl, hS⟩ := hrel
        obtain ⟨wi, rfl⟩ : ∃ wi : World, wi = wr := ⟨_, rfl⟩
        by_cases hjn : j < k
        · have hj1 : (j : Int) < (k : Int) := by omega
          obtain ⟨X, rfl, hc⟩ := HCS.out j hjn
          have HHS := Lib.hid hc
          have c0 := hc _ (FB.out _ hS.out.bl).2.2
          clear hc
          obtain ⟨E1, E2, E3⟩ := HE.out
          obtain ⟨YK, rfl, hdK⟩ := HCK.out j (by omega)
          obtain ⟨YF, rfl, hdF⟩ := HCF.out j (by omega)
          obtain ⟨YG, rfl, hdG⟩ := HCG.out j (by omega)
          have HDK := Lib.hid hdK; have HDF := Lib.hid hdF; have HDG := Lib.hid hdG
          have hx1 : (j : Int) < (lK : Int) := by omega
          have hx2 : (j : Int) < (lF : Int) := by omega
          have hx3 : (j : Int) < (lG : Int) := by omega
          have hjK : j < lK := by omega
          clear hdK hdF hdG E1 E2 E3
          obtain ⟨wt, hwt⟩ : ∃ wt, wt = wi.alloc (.cells #[.int .i64 0, .int .i64 0, .int .i64 0] 84) := ⟨_, rfl⟩
          have Q0 := Lib.hid (show Tq wi wi.heap.size [.int .i64 0, .int .i64 0, .int .i64 0] [.int .i64 (FS j), .int .i64 (FX j), .int .i64 (FT j)] false wt from by rw [hwt]; exact ⟨below_grow _ _, Nat.le_refl _, Box.made wi _ _⟩)
          by_cases hu : nth secrets j = -1
          · have hb : (nth secrets j == -1) = true := by simpa using hu
            obtain ⟨u1, u2, u3⟩ := HMU.out j hu
            have HU1 := Lib.hid u1; have HU2 := Lib.hid u2; have HU3 := Lib.hid u3
            clear u1 u2 u3 hu
            go_upto_region 16 with (fail)
            rw [← hwt]
            clear hwt c0
            go_wp2_with fail
            apply wp_region_H (Z := Bool) (S := fun k => k == 13 || k == 17) (C := fun z w' => Hid (Tq wi wi.heap.size [.int .i64 0, .int .i64 0, .int .i64 0] [.int .i64 (FS j), .int .i64 (FX j), .int .i64 (FT j)] z w')) [0, 1, 2, 3, 4, 5, 6, 7, 8, 9, 10, 11, 12] false
            · kernel_rfl
            · kernel_rfl
            · kernel_rfl
            · exact ⟨rfl, rfl, rfl, rfl, rfl, rfl, rfl, rfl, rfl, rfl, rfl, rfl, rfl, trivial⟩
            · rfl
            · decide
            · exact Lib.hid (Q0.out.on (Below.refl _ _).drew)
            · intro z
              dsimp only [pickL, nthO]
              repeat (first | go_big_quiet_skip | (go_big_quiet_want; go_big_quiet_op; first | go_big_quiet_on | (refine ⟨_, fun _ _ => rfl, ?_⟩; go_big_quiet_on)))
              go_big_quiet_want
              go_big_quiet_op
              refine ⟨.int .i64 (nth keys j), fun w' hw' => ?_, ?_⟩
              · have q0 := HDK.out _ (FB.out _ (Below.on hS.out.bl hw'.out.bl)).2.2
                simp [go_sem, q0]
              go_big_quiet_on
              repeat (first | go_big_quiet_skip | (go_big_quiet_want; go_big_quiet_op; first | go_big_quiet_on | (refine ⟨_, fun _ _ => rfl, ?_⟩; go_big_quiet_on)))
              go_big_quiet_want
              go_big_quiet_op
              refine ⟨.int .i64 (nth first j), fun w' hw' => ?_, ?_⟩
              · have q0 := HDF.out _ (FB.out _ (Below.on hS.out.bl hw'.out.bl)).2.2
                simp [go_sem, q0]
              go_big_quiet_on
              repeat (first | go_big_quiet_skip | (go_big_quiet_want; go_big_quiet_op; first | go_big_quiet_on | (refine ⟨_, fun _ _ => rfl, ?_⟩; go_big_quiet_on)))
              go_big_quiet_want
              go_big_quiet_op
              refine ⟨.int .i64 (nth second j), fun w' hw' => ?_, ?_⟩
              · have q0 := HDG.out _ (FB.out _ (Below.on hS.out.bl hw'.out.bl)).2.2
                simp [go_sem, q0]
              go_big_quiet_on
              repeat (first | go_big_quiet_skip | (go_big_quiet_want; go_big_quiet_op; first | go_big_quiet_on | (refine ⟨_, fun _ _ => rfl, ?_⟩; go_big_quiet_on)))
              exact wpQuiet_nil rfl
            · skip
              refine wpAnyH_call (i := 13) (d := some 92) 106 #[.int .i64 g, .int .i64 (nth keys j), .int .i64 (nth first j), .int .i64 (nth second j)] rfl (by kernel_rfl) rfl rfl (by kernel_rfl) (fun _ => by kernel_rfl) fun wa hc => ?_
              refine (imade_yes g _ _ _ _ (FB.out _ (Below.on hS.out.bl hc.out.bl)).1.1 (HEK.out j (by omega)) (HEF.out j (by omega)) (HEG.out j (by omega))).mono ?_
              rintro e wb ⟨rfl, hb⟩
              refine ⟨.tuple #[.agg #[.int .i64 (FS j), .int .i64 (FX j), .int .i64 (FT j)], .bool true], by rw [HU1.out, HU2.out, HU3.out], false, Lib.hid (hc.out.on hb), ?_⟩
              clear hb hc
              refine wpAnyH_take (i := 14) (d := some 78) (.tuple #[.agg #[.int .i64 (FS j), .int .i64 (FX j), .int .i64 (FT j)], .bool true]) rfl (by kernel_rfl) rfl rfl (by kernel_rfl) (by kernel_rfl) (by kernel_rfl) (fun _ => by kernel_rfl) ?_
              refine wpAnyH_take (i := 15) (d := some 93) (.agg #[.int .i64 (FS j), .int .i64 (FX j), .int .i64 (FT j)]) rfl (by kernel_rfl) rfl rfl (by kernel_rfl) (by kernel_rfl) (by kernel_rfl) (fun _ => by kernel_rfl) ?_
              refine wpAnyH_take (i := 16) (d := some 94) (.bool true) rfl (by kernel_rfl) rfl rfl (by kernel_rfl) (by kernel_rfl) (by kernel_rfl) (fun _ => by kernel_rfl) ?_
              refine wpAnyH_special (i := 17) (d := none) rfl (by kernel_rfl) rfl rfl (by kernel_rfl) fun we he => ?_
              have r0 := he.out.box.cell 0; have r1 := he.out.box.cell 1; have r2 := he.out.box.cell 2; have f0 := he.out.box.frozen 0; have f1 := he.out.box.frozen 1; have f2 := he.out.box.frozen 2
              simp at r0 r1 r2
              refine ⟨undef, st3 we wi.heap.size (.int .i64 (FS j)) (.int .i64 (FX j)) (.int .i64 (FT j)), true, .inr ⟨by simp [go_sem, Act.put, st3, r0, r1, r2, f0, f1, f2], rfl⟩, Lib.hid he.out.put, ?_⟩
              clear he r0 r1 r2 f0 f1 f2
              refine ⟨by kernel_rfl, fun w5 hz => ?_⟩
              simp only [Act.put, List.setIfInBounds_toArray, List.set_cons_zero, List.set_cons_succ]
              have S5 := Lib.hid (hS.out.on hz.out.bl)
              have M5 := Lib.hid hz.out.box
              have hM : wi.heap.size < w5.heap.size := hz.out.box.lt
              have hNM : wo.heap.size < wi.heap.size := hS.out.box.lt
              have LB := Lib.hid (show (∀ k, sv.ownBlock = some k → k < wi.heap.size) ∧ (∀ k, xv.ownBlock = some k → k < wi.heap.size) ∧ (∀ k, tv.ownBlock = some k → k < wi.heap.size) from ⟨fun k h => (hS.out.s.lt k h).2, fun k h => (hS.out.x.lt k h).2, fun k h => (hS.out.t.lt k h).2⟩)
              clear hz hS
              have a0 := S5.out.box.cell 0
              have g0_ := S5.out.box.frozen 0
              have m0 := M5.out.cell 0
              simp at a0 m0
              have ov := S5.out.s
              have hbs := S5.out.bl.size
              have hbx := S5.out.box.lt
              go_upto_region 19 with (at_builtin; refine wpAppInt rfl _ _ rfl rfl ov (by rw [HMLS.out]; omega) (by omega) rfl ?_)
              intro v6 w6 o6 g6 k6
              rw [← HMS.out] at o6
              obtain ⟨A6, C6, e6⟩ := Own.form o6
              rw [HMLS.out] at e6
              subst e6
              have hb8 : (w6.heap[wo.heap.size]?) = (w5.heap[wo.heap.size]?) := g6.block _ hbx fun e => by have := (ov.lt _ e.symm).1; omega
              have ax := (box_same S5.out.box hb8).cell 0
              have fx := (box_same S5.out.box hb8).frozen 0
              simp at ax
              have S6 := Lib.hid (S3.say (y := _) S5.out (by rw [HMS.out] at o6; exact o6) g6 k6)
              have M6 := Lib.hid (keep_talk (N := wo.heap.size) (j := 0) (v' := (.slice A6 (j + 1) C6)) M5.out g6 LB.out.1 (by omega))
              rw [← HMS.out] at S6
              clear o6 g6 k6 ov a0 g0_ m0 hbs hbx hb8
              go_upto_region 19 with (fail)
              obtain ⟨y6, hy6⟩ : ∃ y, y = w6.setCell ⟨wo.heap.size, 0, none⟩ (.slice A6 (j + 1) C6) := ⟨_, rfl⟩
              rw [← hy6] at S6 M6 ⊢
              clear hy6 ax fx
              have a0 := S6.out.box.cell 2
              have g0_ := S6.out.box.frozen 2
              have m0 := M6.out.cell 1
              simp at a0 m0
              have ov := S6.out.x
              have hbs := S6.out.bl.size
              have hbx := S6.out.box.lt
              go_upto_region 20 with (at_builtin; refine wpAppInt rfl _ _ rfl rfl ov (by rw [HMLX.out]; omega) (by omega) rfl ?_)
              intro v7 w7 o7 g7 k7
              rw [← HMX.out] at o7
              obtain ⟨A7, C7, e7⟩ := Own.form o7
              rw [HMLX.out] at e7
              subst e7
              have hb8 : (w7.heap[wo.heap.size]?) = (y6.heap[wo.heap.size]?) := g7.block _ hbx fun e => by have := (ov.lt _ e.symm).1; omega
              have ax := (box_same S6.out.box hb8).cell 2
              have fx := (box_same S6.out.box hb8).frozen 2
              simp at ax
              have S7 := Lib.hid (S3.ask (y := _) S6.out (by rw [HMX.out] at o7; exact o7) g7 k7)
              have M7 := Lib.hid (keep_talk (N := wo.heap.size) (j := 2) (v' := (.slice A7 (j + 1) C7)) M6.out g7 LB.out.2.1 (by omega))
              rw [← HMX.out] at S7
              clear o7 g7 k7 ov a0 g0_ m0 hbs hbx hb8
              go_upto_region 20 with (fail)
              obtain ⟨y7, hy7⟩ : ∃ y, y = w7.setCell ⟨wo.heap.size, 2, none⟩ (.slice A7 (j + 1) C7) := ⟨_, rfl⟩
              rw [← hy7] at S7 M7 ⊢
              clear hy7 ax fx
              have a0 := S7.out.box.cell 3
              have g0_ := S7.out.box.frozen 3
              have m0 := M7.out.cell 2
              simp at a0 m0
              have ov := S7.out.t
              have hbs := S7.out.bl.size
              have hbx := S7.out.box.lt
              go_wp2_with (at_builtin; refine wpAppInt rfl _ _ rfl rfl ov (by rw [HMLT.out]; omega) (by omega) rfl ?_)
              intro v8 w8 o8 g8 k8
              rw [← HMT.out] at o8
              obtain ⟨A8, C8, e8⟩ := Own.form o8
              rw [HMLT.out] at e8
              subst e8
              have hb8 : (w8.heap[wo.heap.size]?) = (y7.heap[wo.heap.size]?) := g8.block _ hbx fun e => by have := (ov.lt _ e.symm).1; omega
              have ax := (box_same S7.out.box hb8).cell 3
              have fx := (box_same S7.out.box hb8).frozen 3
              simp at ax
              have S8 := Lib.hid (S3.tell (y := _) S7.out (by rw [HMT.out] at o8; exact o8) g8 k8)
              have M8 := Lib.hid (keep_talk (N := wo.heap.size) (j := 3) (v' := (.slice A8 (j + 1) C8)) M7.out g8 LB.out.2.2 (by omega))
              rw [← HMT.out] at S8
              clear o8 g8 k8 ov a0 g0_ m0 hbs hbx hb8
              go_wp2
              go_roundw
              case rel => exact ⟨j + 1, _, _, _, by omega, by go_num, S8⟩
              case measure => simp [intOf]; omega
          · have hb : (nth secrets j == -1) = false := by simpa using hu
            obtain ⟨u1, u2, u3⟩ := HMK.out j hu
            have HU1 := Lib.hid u1; have HU2 := Lib.hid u2; have HU3 := Lib.hid u3
            have HSX := Lib.hid (HES.out j (by omega) hu)
            clear u1 u2 u3 hu
            go_upto_region 17 with (fail)
            rw [← hwt]
            clear hwt c0
            go_wp2_with fail
            apply wp_region_H (Z := Bool) (S := fun k => k == 10 || k == 11 || k == 15) (C := fun z w' => Hid (Tq wi wi.heap.size [.int .i64 0, .int .i64 0, .int .i64 0] [.int .i64 (FS j), .int .i64 (FX j), .int .i64 (FT j)] z w')) [0, 1, 2, 3, 4, 5, 6, 7, 8, 9] false
            · kernel_rfl
            · kernel_rfl
            · kernel_rfl
            · exact ⟨rfl, rfl, rfl, rfl, rfl, rfl, rfl, rfl, rfl, rfl, trivial⟩
            · rfl
            · decide
            · exact Lib.hid (Q0.out.on (Below.refl _ _).drew)
            · intro z
              dsimp only [pickL, nthO]
              repeat (first | go_big_quiet_skip | (go_big_quiet_want; go_big_quiet_op; first | go_big_quiet_on | (refine ⟨_, fun _ _ => rfl, ?_⟩; go_big_quiet_on)))
              go_big_quiet_want
              go_big_quiet_op
              refine ⟨.int .i64 (nth first j), fun w' hw' => ?_, ?_⟩
              · have q0 := HDF.out _ (FB.out _ (Below.on hS.out.bl hw'.out.bl)).2.2
                simp [go_sem, q0]
              go_big_quiet_on
              repeat (first | go_big_quiet_skip | (go_big_quiet_want; go_big_quiet_op; first | go_big_quiet_on | (refine ⟨_, fun _ _ => rfl, ?_⟩; go_big_quiet_on)))
              exact wpQuiet_nil rfl
            · skip
              refine wpAnyH_call (i := 10) (d := some 106) 108 #[.int .i64 g, vf, .int .i64 ((j : Int) + 1)] rfl (by kernel_rfl) rfl rfl (by kernel_rfl) (fun _ => by kernel_rfl) fun wa hc => ?_
              refine (HAT.out j _ W0.heap.size _ (by omega) (FB.out _ (Below.on hS.out.bl hc.out.bl)).1.1 (by have := (FB.out _ (Below.on hS.out.bl hc.out.bl)).1.2; rwa [HE.out.1] at this)).mono ?_
              rintro e wb ⟨rfl, hb⟩
              refine ⟨_, rfl, false, Lib.hid (hc.out.on hb), ?_⟩
              clear hb hc
              refine wpAnyH_call (i := 11) (d := some 107) 107 #[.int .i64 g, .int .i64 (nth secrets j), .int .i64 (nth first j), .int .i64 (QQ j)] rfl (by kernel_rfl) rfl rfl (by kernel_rfl) (fun _ => by kernel_rfl) fun wa hc => ?_
              refine (italk_yes g _ _ _ _ (FB.out _ (Below.on hS.out.bl hc.out.bl)).1.1 HSX.out (HEF.out j (by omega)) (HQX.out j)).mono ?_
              rintro e wb ⟨rfl, hb⟩
              refine ⟨.tuple #[.agg #[.int .i64 (FS j), .int .i64 (FX j), .int .i64 (FT j)], .bool true], by rw [HU1.out, ← HU2.out, HU3.out], false, Lib.hid (hc.out.on hb), ?_⟩
              clear hb hc
              refine wpAnyH_take (i := 12) (d := some 95) (.tuple #[.agg #[.int .i64 (FS j), .int .i64 (FX j), .int .i64 (FT j)], .bool true]) rfl (by kernel_rfl) rfl rfl (by kernel_rfl) (by kernel_rfl) (by kernel_rfl) (fun _ => by kernel_rfl) ?_
              refine wpAnyH_take (i := 13) (d := some 108) (.agg #[.int .i64 (FS j), .int .i64 (FX j), .int .i64 (FT j)]) rfl (by kernel_rfl) rfl rfl (by kernel_rfl) (by kernel_rfl) (by kernel_rfl) (fun _ => by kernel_rfl) ?_
              refine wpAnyH_take (i := 14) (d := some 109) (.bool true) rfl (by kernel_rfl) rfl rfl (by kernel_rfl) (by kernel_rfl) (by kernel_rfl) (fun _ => by kernel_rfl) ?_
              refine wpAnyH_special (i := 15) (d := none) rfl (by kernel_rfl) rfl rfl (by kernel_rfl) fun we he => ?_
              have r0 := he.out.box.cell 0; have r1 := he.out.box.cell 1; have r2 := he.out.box.cell 2; have f0 := he.out.box.frozen 0; have f1 := he.out.box.frozen 1; have f2 := he.out.box.frozen 2
              simp at r0 r1 r2
              refine ⟨undef, st3 we wi.heap.size (.int .i64 (FS j)) (.int .i64 (FX j)) (.int .i64 (FT j)), true, .inr ⟨by simp [go_sem, Act.put, st3, r0, r1, r2, f0, f1, f2], rfl⟩, Lib.hid he.out.put, ?_⟩
              clear he r0 r1 r2 f0 f1 f2
              refine ⟨by kernel_rfl, fun w5 hz => ?_⟩
              simp only [Act.put, List.setIfInBounds_toArray, List.set_cons_zero, List.set_cons_succ]
              have S5 := Lib.hid (hS.out.on hz.out.bl)
              have M5 := Lib.hid hz.out.box
              have hM : wi.heap.size < w5.heap.size := hz.out.box.lt
              have hNM : wo.heap.size < wi.heap.size := hS.out.box.lt
              have LB := Lib.hid (show (∀ k, sv.ownBlock = some k → k < wi.heap.size) ∧ (∀ k, xv.ownBlock = some k → k < wi.heap.size) ∧ (∀ k, tv.ownBlock = some k → k < wi.heap.size) from ⟨fun k h => (hS.out.s.lt k h).2, fun k h => (hS.out.x.lt k h).2, fun k h => (hS.out.t.lt k h).2⟩)
              clear hz hS
              have a0 := S5.out.box.cell 0
              have g0_ := S5.out.box.frozen 0
              have m0 := M5.out.cell 0
              simp at a0 m0
              have ov := S5.out.s
              have hbs := S5.out.bl.size
              have hbx := S5.out.box.lt
              go_upto_region 19 with (at_builtin; refine wpAppInt rfl _ _ rfl rfl ov (by rw [HMLS.out]; omega) (by omega) rfl ?_)
              intro v6 w6 o6 g6 k6
              rw [← HMS.out] at o6
              obtain ⟨A6, C6, e6⟩ := Own.form o6
              rw [HMLS.out] at e6
              subst e6
              have hb8 : (w6.heap[wo.heap.size]?) = (w5.heap[wo.heap.size]?) := g6.block _ hbx fun e => by have := (ov.lt _ e.symm).1; omega
              have ax := (box_same S5.out.box hb8).cell 0
              have fx := (box_same S5.out.box hb8).frozen 0
              simp at ax
              have S6 := Lib.hid (S3.say (y := _) S5.out (by rw [HMS.out] at o6; exact o6) g6 k6)
              have M6 := Lib.hid (keep_talk (N := wo.heap.size) (j := 0) (v' := (.slice A6 (j + 1) C6)) M5.out g6 LB.out.1 (by omega))
              rw [← HMS.out] at S6
              clear o6 g6 k6 ov a0 g0_ m0 hbs hbx hb8
              go_upto_region 19 with (fail)
              obtain ⟨y6, hy6⟩ : ∃ y, y = w6.setCell ⟨wo.heap.size, 0, none⟩ (.slice A6 (j + 1) C6) := ⟨_, rfl⟩
              rw [← hy6] at S6 M6 ⊢
              clear hy6 ax fx
              have a0 := S6.out.box.cell 2
              have g0_ := S6.out.box.frozen 2
              have m0 := M6.out.cell 1
              simp at a0 m0
              have ov := S6.out.x
              have hbs := S6.out.bl.size
              have hbx := S6.out.box.lt
              go_upto_region 20 with (at_builtin; refine wpAppInt rfl _ _ rfl rfl ov (by rw [HMLX.out]; omega) (by omega) rfl ?_)
              intro v7 w7 o7 g7 k7
              rw [← HMX.out] at o7
              obtain ⟨A7, C7, e7⟩ := Own.form o7
              rw [HMLX.out] at e7
              subst e7
              have hb8 : (w7.heap[wo.heap.size]?) = (y6.heap[wo.heap.size]?) := g7.block _ hbx fun e => by have := (ov.lt _ e.symm).1; omega
              have ax := (box_same S6.out.box hb8).cell 2
              have fx := (box_same S6.out.box hb8).frozen 2
              simp at ax
              have S7 := Lib.hid (S3.ask (y := _) S6.out (by rw [HMX.out] at o7; exact o7) g7 k7)
              have M7 := Lib.hid (keep_talk (N := wo.heap.size) (j := 2) (v' := (.slice A7 (j + 1) C7)) M6.out g7 LB.out.2.1 (by omega))
              rw [← HMX.out] at S7
              clear o7 g7 k7 ov a0 g0_ m0 hbs hbx hb8
              go_upto_region 20 with (fail)
              obtain ⟨y7, hy7⟩ : ∃ y, y = w7.setCell ⟨wo.heap.size, 2, none⟩ (.slice A7 (j + 1) C7) := ⟨_, rfl⟩
              rw [← hy7] at S7 M7 ⊢
              clear hy7 ax fx
              have a0 := S7.out.box.cell 3
              have g0_ := S7.out.box.frozen 3
              have m0 := M7.out.cell 2
              simp at a0 m0
              have ov := S7.out.t
              have hbs := S7.out.bl.size
              have hbx := S7.out.box.lt
              go_wp2_with (at_builtin; refine wpAppInt rfl _ _ rfl rfl ov (by rw [HMLT.out]; omega) (by omega) rfl ?_)
              intro v8 w8 o8 g8 k8
              rw [← HMT.out] at o8
              obtain ⟨A8, C8, e8⟩ := Own.form o8
              rw [HMLT.out] at e8
              subst e8
              have hb8 : (w8.heap[wo.heap.size]?) = (y7.heap[wo.heap.size]?) := g8.block _ hbx fun e => by have := (ov.lt _ e.symm).1; omega
              have ax := (box_same S7.out.box hb8).cell 3
              have fx := (box_same S7.out.box hb8).frozen 3
              simp at ax
              have S8 := Lib.hid (S3.tell (y := _) S7.out (by rw [HMT.out] at o8; exact o8) g8 k8)
              have M8 := Lib.hid (keep_talk (N := wo.heap.size) (j := 3) (v' := (.slice A8 (j + 1) C8)) M7.out g8 LB.out.2.2 (by omega))
              rw [← HMT.out] at S8
              clear o8 g8 k8 ov a0 g0_ m0 hbs hbx hb8
              go_wp2
              go_roundw
              case rel => exact ⟨j + 1, _, _, _, by omega, by go_num, S8⟩
              case measure => simp [intOf]; omega
        · have hjk : j = k := by omega
          subst hjk
          have hj1 : ¬ (j : Int) < (j : Int) := by omega
          have e9 := HE.out.1
          subst e9
          obtain ⟨A1, C1, e1⟩ := Own.form hS.out.s
          obtain ⟨A2, C2, e2⟩ := Own.form hS.out.x
          obtain ⟨A3, C3, e3⟩ := Own.form hS.out.t
          rw [HMLS.out] at e1; rw [HMLX.out] at e2; rw [HMLT.out] at e3
          subst e1 e2 e3
          have zb := Lib.hid (FB.out _ hS.out.bl).2
          have z0 := zb.out.1.cell 0; have z1 := zb.out.1.cell 1; have z2 := zb.out.1.cell 2; have z3 := zb.out.1.cell 3; have f0 := zb.out.1.frozen 0; have f1 := zb.out.1.frozen 1; have f2 := zb.out.1.frozen 2; have f3 := zb.out.1.frozen 3
          have q0 := hS.out.box.cell 0; have q1 := hS.out.box.cell 1; have q2 := hS.out.box.cell 2; have q3 := hS.out.box.cell 3
          simp at z0 z1 z2 z3 q0 q1 q2 q3
          go_wp2
          refine bodyPost_ret (v := .tuple #[.agg #[.slice A1 j C1, .int .i64 ask, .slice A2 j C2, .slice A3 j C3], .bool true]) ?_ rfl ?_
          · simp [results, Tryd.results86, go_sem, z0, z1, z2, z3]
          · refine ⟨_, _, _, by rw [HX.out]; rfl, ?_, ?_⟩
            · rw [HX.out, HRS.out, HRX.out, HRT.out]
              have hle := hS.out.n0
              have hw9 : w.heap.size + 1 ≤ wo.heap.size := by omega
              exact hS.out.fin (by omega) _ _ _ _
            · exact (((zb.out.2.setCell (Nat.le_refl _) _).setCell (Nat.le_refl _) _).setCell (Nat.le_refl _) _).setCell (Nat.le_refl _) _
end Go.Proofs.YtljekapbcphdaabDoor
