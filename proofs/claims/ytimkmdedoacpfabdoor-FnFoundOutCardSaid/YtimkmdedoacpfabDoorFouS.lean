/- spec: l6Lower, FoundOut. -/
import Derived.Test.YtimkmdedoacpfabDoorFouP
import Derived.Test.YtimkmdedoacpfabDoorColT
import Derived.Test.YtimkmdedoacpfabDoorFouI
import Derived.Test.YtimkmdedoacpfabDoorBReg
namespace Go.Proofs.YtimkmdedoacpfabDoor
open Go.RowKit

set_option maxHeartbeats 3200000 in
theorem slow_any (u d : Nat) (w : World) (hu : u ≤ 1000000) (hd : d ≤ 1000000) (h0 : 0 < d) : Calls Tryd.prog 79 #[.int .i64 u, .int .i64 d] w fun e w' => e = .returned (.tuple #[.int .i64 ((low u d).1 : Int), .int .i64 ((low u d).2 : Int)]) ∧ Below w.heap.size w w' := by
  obtain ⟨A, hA⟩ : ∃ A, (low u d).1 = A := ⟨_, rfl⟩
  obtain ⟨B, hB2⟩ : ∃ B, (low u d).2 = B := ⟨_, rfl⟩
  have HA := Lib.hid hA
  have HB := Lib.hid hB2
  have hA1 : A ≤ 1000000 := by rw [← hA]; exact Nat.le_trans (Nat.div_le_self _ _) hu
  have hB1 : B ≤ 1000000 := by rw [← hB2]; exact Nat.le_trans (Nat.div_le_self _ _) hd
  rw [hA, hB2]
  clear hA hB2
  have B0 := Lib.hid (Below.refl w.heap.size w)
  have G0 : Hid (Nat.gcd (u : Int).toNat (d : Int).toNat = Nat.gcd u d) := Lib.hid (by simp)
  have HG : Hid (0 < Nat.gcd u d) := Lib.hid (Nat.gcd_pos_of_pos_right u h0)
  go_enter Tryd.func79, Tryd.ntmps79
  go_wp2
  go_loopw [6, 7] (fun a b wr => ∃ X Y : Int, a = .int .i64 X ∧ b = .int .i64 Y ∧ 0 ≤ X ∧ X ≤ 1000000 ∧ 0 ≤ Y ∧ Y ≤ 1000000 ∧ Hid (Nat.gcd X.toNat Y.toNat = Nat.gcd u d) ∧ Hid (Below w.heap.size w wr)) (fun _ b _ => (intOf b).toNat)
  case atStart => exact ⟨u, d, rfl, rfl, by omega, by omega, by omega, by omega, G0, B0⟩
  case round =>
    obtain ⟨X, Y, rfl, rfl, X0, X1, Y0, Y1, hg, hB⟩ := hrel
    obtain ⟨wo, rfl⟩ : ∃ wo : World, wo = wr := ⟨_, rfl⟩
    clear G0 B0
    by_cases hy : Y = 0
    · subst hy
      obtain ⟨g, hgg⟩ : ∃ g : Nat, X = (g : Int) := ⟨X.toNat, by omega⟩
      subst hgg
      have hgd : g = Nat.gcd u d := by have := hg.out; simpa using this
      have hg0 : 0 < g := by rw [hgd]; exact HG.out
      have QA : Hid (wrap64 ((u : Int) / (g : Int)) = (A : Int)) := Lib.hid (by
        have e : (u : Int) / (g : Int) = (A : Int) := by rw [← HA.out, hgd]; exact (Int.natCast_ediv u (Nat.gcd u d)).symm
        rw [e]; exact w64_in (by omega) (by omega))
      have QB : Hid (wrap64 ((d : Int) / (g : Int)) = (B : Int)) := Lib.hid (by
        have e : (d : Int) / (g : Int) = (B : Int) := by rw [← HB.out, hgd]; exact (Int.natCast_ediv d (Nat.gcd u d)).symm
        rw [e]; exact w64_in (by omega) (by omega))
      have hgz : ((g : Int) == 0) = false := by rw [beq_eq_false_iff_ne]; omega
      have hgn : ¬ (g : Int) = 0 := by omega
      have hd : decide ((0 : Int) < 0) = false := by simp
      have BD := Lib.hid (show Below w.heap.size w wo.drew from hB.out.drew)
      clear hg hgd hB
      go_wp2_with fail
      refine wp_region_cls (C := fun w' => Hid (Below w.heap.size w w')) (by kernel_rfl) (by kernel_rfl) BD ?_
      repeat (first | go_big_quiet_skip | (go_big_quiet_want; go_big_quiet_op; first | go_big_quiet_on | (refine ⟨_, fun _ _ => rfl, ?_⟩; go_big_quiet_on)))
      refine wpQuiet_nil ?_
      intro w3 hw3
      clear BD
      go_wp2
      go_ret2
      exact ⟨by show Ending.returned (.tuple #[.int .i64 (wrap64 ((u : Int) / (g : Int))), .int .i64 (wrap64 ((d : Int) / (g : Int)))]) = _; rw [QA.out, QB.out], hw3.out⟩
    · have hd : decide (0 < Y) = true := by simp; omega
      obtain ⟨R, hR⟩ : ∃ R, X.tmod Y = R := ⟨_, rfl⟩
      have hb := tmod_bd X Y (by omega)
      have hmo : R = X % Y := by rw [← hR]; exact Int.tmod_eq_emod_of_nonneg X0
      have hR0 : 0 ≤ R := by rw [hmo]; exact Int.emod_nonneg _ hy
      rw [hR] at hb
      have GN : Hid (Nat.gcd Y.toNat R.toNat = Nat.gcd u d) := Lib.hid (by
        have e : R.toNat = X.toNat % Y.toNat := by rw [hmo]; exact Int.toNat_emod X0 Y0
        rw [e, Nat.gcd_comm, ← hg.out, Nat.gcd_comm X.toNat, Nat.gcd_rec Y.toNat X.toNat])
      have hyb : (Y == 0) = false := by rw [beq_eq_false_iff_ne]; exact hy
      have hRY : R < Y := by omega
      have BD := Lib.hid (show Below w.heap.size w wo.drew from hB.out.drew)
      clear hg hmo hb hB
      go_wp2_with fail
      refine wp_region_cls (C := fun w' => Hid (Below w.heap.size w w')) (by kernel_rfl) (by kernel_rfl) BD ?_
      repeat (first | go_big_quiet_skip | (go_big_quiet_want; go_big_quiet_op; first | go_big_quiet_on | (refine ⟨_, fun _ _ => rfl, ?_⟩; go_big_quiet_on)))
      refine wpQuiet_nil ?_
      intro w3 hw3
      clear hR BD
      go_wp2
      go_roundw
      case rel => exact ⟨Y, R, rfl, rfl, by omega, by omega, by omega, by omega, GN, hw3⟩
      case measure => simp [intOf]; omega

/-! ### BestCheat -/
/-- Between two rounds: the best ones so far are a row of the list of all. -/
def SbI (es : List Int) (L : List (List Int)) (us : List Value) (k : Nat) (bv : Value) (f : Int) : Prop := (k = 0 ∧ f = -1) ∨ (0 < k ∧ f = (bstTo (nfl es) L k).2 ∧ ∃ j, j < us.length ∧ bv = val us j ∧ row L j = (bstTo (nfl es) L k).1)
theorem SbI.take {es : List Int} {L : List (List Int)} {us : List Value} {k : Nat} {bv : Value} {f : Int} (h : SbI es L us k bv f) (hk : k < us.length) (hf : f < 0 ∨ (nfl es (row L k) : Int) < f) : SbI es L us (k + 1) (val us k) (nfl es (row L k) : Int) := by
  have ht : bstTo (nfl es) L (k + 1) = (row L k, (nfl es (row L k) : Int)) := bstTo_take (by
    rcases h with ⟨rfl, _⟩ | ⟨_, h2, _⟩
    · exact .inl (by simp [bstTo])
    · rw [← h2]; exact hf)
  exact .inr ⟨by omega, by rw [ht], k, hk, rfl, by rw [ht]⟩
theorem SbI.keep {es : List Int} {L : List (List Int)} {us : List Value} {k : Nat} {bv : Value} {f : Int} (h : SbI es L us k bv f) (hf : ¬ (f < 0 ∨ (nfl es (row L k) : Int) < f)) : SbI es L us (k + 1) bv f := by
  rcases h with ⟨rfl, h2⟩ | ⟨_, h2, h3⟩
  · omega
  · have ht : bstTo (nfl es) L (k + 1) = bstTo (nfl es) L k := bstTo_keep (by rw [← h2]; exact hf)
    exact .inr ⟨by omega, by rw [ht]; exact h2, by rw [ht]; exact h3⟩
set_option maxRecDepth 20000 in
set_option maxHeartbeats 6400000 in
theorem sbc_any (p : Int) (v : Value) (es : List Int) (w : World) (h : Ints w v es) (hp : intIn p) (hs : ∀ j, j < es.length → intIn (nth es j)) : Calls Tryd.prog 41 #[.agg #[.int .i64 p, v]] w (BcPost p es w) := by
  obtain ⟨ga, gc, rfl, _⟩ := h.opened
  obtain ⟨gn, hgn⟩ : ∃ gn, es.length = gn := ⟨_, rfl⟩
  have HGN := Lib.hid hgn
  rw [hgn] at h ⊢
  clear hgn
  have b0 := Box.made w [.int .i64 p, .slice ga gn gc] 25
  have bl := below_grow w (.cells #[.int .i64 p, .slice ga gn gc] 25)
  have HG := Lib.hid (show ∀ w', Below w.heap.size w w' → Ints w' (.slice ga gn gc) es from fun w' hb => h.below hb)
  have HS := Lib.hid hs
  have HP := Lib.hid hp
  have a0 := b0.cell 0
  have a1 := b0.cell 1
  simp at a0 a1
  have B0 := Lib.hid b0
  have BL := Lib.hid bl
  clear h hs hp b0 bl
  cases hf : gkB p es
  · have HX := Lib.hid (bstB_no hf)
    have HF := Lib.hid hf
    clear hf
    go_enter Tryd.func41, Tryd.ntmps41
    go_wp2_with fail
    refine (sgk_is HF.out (HG.out _ BL.out) HP.out HS.out).mono ?_
    rintro e w1 ⟨rfl, hb⟩
    have B1 := Lib.hid (Below.on BL.out hb)
    have O1 := Lib.hid (own_made' w1)
    have BG := Lib.hid (below_grow w1 (.cells #[] 3))
    clear hb a0 a1
    go_wp2
    go_ret2
    exact ⟨_, by rw [HX.out]; rfl, by rw [HX.out]; exact own_mono O1.out B1.out.size, Below.on B1.out BG.out⟩
  have HF := Lib.hid hf
  have hgk := gkB_true.1 hf
  have HGK := Lib.hid hgk
  obtain ⟨m, hm⟩ := Int.eq_ofNat_of_zero_le (show 0 ≤ p by have := hgk.p1; omega)
  subst hm
  have HM5 : Hid (m ≤ 5) := Lib.hid (by have := hgk.p5; omega)
  obtain ⟨L, hL⟩ : ∃ L, lots 3 m = L := ⟨_, rfl⟩
  obtain ⟨n, hn⟩ : ∃ n, L.length = n := ⟨_, rfl⟩
  have h3 : n = 3 ^ m := by rw [← hn, ← hL, lots_len]
  have HX : Hid (bstB m es = bstTo (nfl es) L n) := Lib.hid (by rw [bstB_yes hf]; unfold bst; rw [Int.toNat_natCast, hL, h3])
  have HN0 : Hid (0 < n) := Lib.hid (by rw [h3]; exact pow3 m)
  have HCG := Lib.hid (show ∀ w', Calls Tryd.prog 70 #[.int .i64 m] w' fun e w'' => ∃ v us, e = .returned v ∧ Full us ∧ OwnSS w'' w'.heap.size w''.heap.size v us L ∧ Below w'.heap.size w' w'' from fun w' => by rw [← hL]; exact sal_any m w' HM5.out)
  have HFT := Lib.hid (show ∀ j, j < n → Fit m es (row L j) from fun j hj => (lots_fit hgk).1 (by rw [Int.toNat_natCast, hL]; exact row_mem (by rw [hn]; exact hj)))
  have hn243 : n ≤ 243 := by rw [← hn, ← hL]; exact lots3_len HM5.out
  have HFW := Lib.hid hgk.few
  have HN := Lib.hid hn
  clear hf hgk hL hn h3
  go_enter Tryd.func41, Tryd.ntmps41
  go_wp2_with fail
  refine (sgk_is HF.out (HG.out _ BL.out) HP.out HS.out).mono ?_
  rintro e w1 ⟨rfl, hb⟩
  have bg := below_grow w1 (.cells #[] 3)
  have B1 := Lib.hid (Below.on (Below.on BL.out hb) bg)
  have P1 := Lib.hid ((B0.out.on hb).on bg)
  have s0 := P1.out.cell 0
  simp at s0
  clear hb a0 a1 bg
  go_wp2_with fail
  refine (HCG.out _).mono ?_
  rintro e w2 ⟨lv, us, rfl, hful, ol, hb⟩
  have B2 := Lib.hid (Below.on B1.out hb)
  have P2 := Lib.hid (P1.out.on hb)
  obtain ⟨a, c, hv⟩ := OwnSS.form ol
  rw [HN.out] at hv
  subst hv
  have HUL : Hid (us.length = n) := Lib.hid (by rw [ol.len]; exact HN.out)
  have HFL := Lib.hid hful
  have OL := Lib.hid ol
  have BX : Hid (Below w2.heap.size w2 w2) := Lib.hid (Below.refl _ _)
  have HW1 := Lib.hid B1.out.size
  clear ol hb hful s0
  go_wp2
  go_loopw [4, 5, 7] (fun bv F i wr => ∃ k : Nat, k ≤ n ∧ i = .int .i64 k ∧ ∃ f : Int, F = .int .i64 f ∧ -1 ≤ f ∧ f ≤ 1000 ∧ Hid (SbI es L us k bv f) ∧ Hid (Below w2.heap.size w2 wr)) (fun _ _ i _ => n - (intOf i).toNat)
  case atStart => exact ⟨0, by omega, rfl, -1, rfl, by omega, by omega, Lib.hid (.inl ⟨rfl, rfl⟩), BX⟩
  case round =>
    obtain ⟨k, hk, rfl, f, rfl, f0, f1, hI, hB⟩ := hrel
    obtain ⟨wo, rfl⟩ : ∃ wo : World, wo = wr := ⟨_, rfl⟩
    clear BX
    by_cases hlt : k < n
    · have hlt1 : (k : Int) < (n : Int) := by omega
      have hku : k < us.length := by rw [HUL.out]; exact hlt
      have hols := OL.out.on hB.out
      obtain ⟨a', c', ea, hcell⟩ := outer_cell hols.outer
      rw [HUL.out] at ea
      cases ea
      obtain ⟨G0, rfl, hG0, hck⟩ := hcell k hku
      obtain ⟨ug, un, uc, hu⟩ := HFL.out k hku
      have HC : Hid (∀ w', Below wo.heap.size wo w' → w'.cell? ⟨G0, k, none⟩ = some (.slice (some ⟨ug, 0, none⟩) un uc)) := Lib.hid fun w' hb => (hb.cell (p := ⟨G0, k, none⟩) hG0).trans (hck.trans (by rw [hu]))
      have HOS := Lib.hid hols
      have HE : Hid (∀ w', Below wo.heap.size wo w' → Ints w' (.slice (some ⟨ug, 0, none⟩) un uc) (row L k)) := Lib.hid fun w' hb => by
        have := (Ints.of_own (HOS.out.rows k hku) (by have := (HFT.out k hlt).len; have := HM5.out; unfold maxLen; omega)).below hb
        rwa [hu] at this
      have HU := Lib.hid hu
      have P3 := Lib.hid (P2.out.on hB.out)
      have B3 := Lib.hid (Below.on B2.out hB.out)
      have HFO := Lib.hid (foL_yes (fitB_true.2 (HFT.out k hlt)))
      have HFB := Lib.hid (fitB_true.2 (HFT.out k hlt))
      obtain ⟨z, hz⟩ : ∃ z, (fls (row L k) es).length = z := ⟨_, rfl⟩
      have HZ := Lib.hid hz
      have hz50 : z ≤ 50 := by rw [← hz]; exact Nat.le_trans (fls_len _ _) HFW.out
      have BD : Hid (Below wo.heap.size wo wo.drew) := Lib.hid (Below.refl _ _).drew
      clear hols hcell hck hu hz
      go_wp2_with fail
      apply wp_region_H (Z := Option Value) (S := fun k => k == 5) (C := fun _ w' => Hid (Below wo.heap.size wo w')) [0, 1, 2, 3, 4] none
      · kernel_rfl
      · kernel_rfl
      · kernel_rfl
      · exact ⟨rfl, rfl, rfl, rfl, rfl, trivial⟩
      · rfl
      · decide
      · exact BD
      · intro zz
        dsimp only [pickL, nthO]
        go_big_quiet_want
        go_big_quiet_op
        refine ⟨.agg #[.int .i64 m, .slice ga gn gc], fun w' hw' => ?_, ?_⟩
        · have q := P3.out.on hw'.out
          have q0 := q.cell 0
          have q1 := q.cell 1
          simp at q0 q1
          simp [go_sem, q0, q1]
        go_big_quiet_on
        go_big_quiet_want; go_big_quiet_op; first | go_big_quiet_on | (refine ⟨_, fun _ _ => rfl, ?_⟩; go_big_quiet_on)
        go_big_quiet_want; go_big_quiet_op; first | go_big_quiet_on | (refine ⟨_, fun _ _ => rfl, ?_⟩; go_big_quiet_on)
        go_big_quiet_want; go_big_quiet_op; first | go_big_quiet_on | (refine ⟨_, fun _ _ => rfl, ?_⟩; go_big_quiet_on)
        go_big_quiet_want
        go_big_quiet_op
        refine ⟨.slice (some ⟨ug, 0, none⟩) un uc, fun w' hw' => ?_, ?_⟩
        · have q := HC.out w' hw'.out
          simp [go_sem, q]
        go_big_quiet_on
        exact wpQuiet_nil rfl
      · refine wpAnyH_call (i := 5) (d := some 30) 17 #[.agg #[.int .i64 m, .slice ga gn gc], .slice (some ⟨ug, 0, none⟩) un uc] rfl (by kernel_rfl) rfl rfl (by kernel_rfl) (fun _ => by kernel_rfl) fun wa hc => ?_
        refine (sfo_any m (.slice ga gn gc) (.slice (some ⟨ug, 0, none⟩) un uc) es (row L k) wa (HG.out _ (Below.on B3.out hc.out)) (HE.out _ hc.out) HP.out HS.out).mono ?_
        rintro e wc ⟨fv, rfl, of, hb⟩
        rw [HFO.out] at of
        rw [HFB.out]
        obtain ⟨fa, fc, hfv⟩ := Own.form of
        subst hfv
        rw [HZ.out]
        refine ⟨_, rfl, none, Lib.hid (Below.on hc.out hb), ?_⟩
        clear hc of hb
        refine wpAnyH_take (i := 6) (d := some 24) (.tuple #[.slice fa z fc, .bool true]) rfl (by kernel_rfl) rfl rfl (by kernel_rfl) (by kernel_rfl) (by kernel_rfl) (fun _ => by kernel_rfl) ?_
        refine wpAnyH_take (i := 7) (d := some 31) (.slice fa z fc) rfl (by kernel_rfl) rfl rfl (by kernel_rfl) (by kernel_rfl) (by kernel_rfl) (fun _ => by kernel_rfl) ?_
        refine wpAnyH_take (i := 8) (d := some 32) (.bool true) rfl (by kernel_rfl) rfl rfl (by kernel_rfl) (by kernel_rfl) (by kernel_rfl) (fun _ => by kernel_rfl) ?_
        refine wpAnyH_take (i := 9) (d := some 8) (.slice fa z fc) rfl (by kernel_rfl) rfl rfl (by kernel_rfl) (by kernel_rfl) (by kernel_rfl) (fun _ => by kernel_rfl) ?_
        refine wpAnyH_take (i := 10) (d := some 9) (.bool true) rfl (by kernel_rfl) rfl rfl (by kernel_rfl) (by kernel_rfl) (by kernel_rfl) (fun _ => by kernel_rfl) ?_
        refine ⟨by kernel_rfl, fun w4 hw4 => ?_⟩
        simp only [Act.put, List.setIfInBounds_toArray, List.set_cons_succ, List.set_cons_zero]
        have c4 := HC.out w4 hw4.out
        have B4 := Lib.hid (Below.on hB.out hw4.out)
        have HZN : Hid (nfl es (row L k) = z) := Lib.hid HZ.out
        clear hw4 BD HC HE HOS
        by_cases hfz : f < 0
        · have SN : Hid (SbI es L us (k + 1) (.slice (some ⟨ug, 0, none⟩) un uc) z) := Lib.hid (by have := hI.out.take hku (.inl hfz); rwa [HZN.out, HU.out] at this)
          have d1 : decide (f < 0) = true := by simpa using hfz
          go_wp2
          go_roundw
          case rel => exact ⟨k + 1, by omega, by go_num, z, rfl, by omega, by omega, SN, B4⟩
          case measure => simp [intOf]; omega
        · have d1 : decide (f < 0) = false := by simpa using hfz
          by_cases hzf : (z : Int) < f
          · have SN : Hid (SbI es L us (k + 1) (.slice (some ⟨ug, 0, none⟩) un uc) z) := Lib.hid (by have := hI.out.take hku (.inr (by rw [HZN.out]; exact hzf)); rwa [HZN.out, HU.out] at this)
            have d2 : decide ((z : Int) < f) = true := by simpa using hzf
            go_wp2
            go_roundw
            case rel => exact ⟨k + 1, by omega, by go_num, z, rfl, by omega, by omega, SN, B4⟩
            case measure => simp [intOf]; omega
          · have SN : Hid (SbI es L us (k + 1) u4 f) := Lib.hid (hI.out.keep (by rw [HZN.out]; omega))
            have d2 : decide ((z : Int) < f) = false := by simpa using hzf
            go_wp2
            go_roundw
            case rel => exact ⟨k + 1, by omega, by go_num, f, rfl, by omega, by omega, SN, B4⟩
            case measure => simp [intOf]; omega
    · obtain rfl : k = n := by omega
      have HR : Hid (f = (bstTo (nfl es) L k).2 ∧ Own wo w.heap.size u4 (bstTo (nfl es) L k).1) := Lib.hid (by
        rcases hI.out with ⟨h0, _⟩ | ⟨_, h2, j, hj, e1, e2⟩
        · have := HN0.out; omega
        · refine ⟨h2, ?_⟩
          have := (OL.out.on hB.out).rows j hj
          rw [e1, ← e2]
          exact own_mono this HW1.out)
      go_wp2
      go_ret2
      exact ⟨_, by rw [HX.out, ← HR.out.1]; rfl, by rw [HX.out]; exact HR.out.2, Below.on B2.out hB.out⟩

set_option maxRecDepth 20000 in
set_option maxHeartbeats 6400000 in
theorem sfu_any (p t : Int) (v : Value) (es : List Int) (w : World) (h : Ints w v es) (hp : intIn p) (hs : ∀ j, j < es.length → intIn (nth es j)) : Calls Tryd.prog 44 #[.agg #[.int .i64 p, v], .int .i64 t] w (FuPost p es t w) := by
  obtain ⟨ga, gc, rfl, h1⟩ := h.opened
  have hgm := h1.max
  obtain ⟨gn, hgn⟩ : ∃ gn, es.length = gn := ⟨_, rfl⟩
  have HGN := Lib.hid hgn
  rw [hgn] at h hgm ⊢
  unfold maxLen at hgm
  clear h1
  have b0 := Box.made w [.int .i64 p, .slice ga gn gc] 25
  have bl := below_grow w (.cells #[.int .i64 p, .slice ga gn gc] 25)
  have HSB := Lib.hid (sbc_any p (.slice ga gn gc) es _ (h.below bl) hp hs)
  have a0 := b0.cell 0
  have a1 := b0.cell 1
  simp at a0 a1
  have B0 := Lib.hid b0
  have BL := Lib.hid bl
  clear h hs hp b0 bl hgn
  cases hf : gkB p es
  · have HX := Lib.hid (fouB_no (p := p) (es := es) (t := t) fun c => by rw [gkB_true.2 c.gk] at hf; cases hf)
    have HB := Lib.hid (bstB_no hf)
    clear hf
    go_enter Tryd.func44, Tryd.ntmps44
    go_wp2_with fail
    refine HSB.out.mono ?_
    rintro e w1 ⟨bv, rfl, _, hb⟩
    rw [HB.out]
    have B1 := Lib.hid (Below.on BL.out hb)
    clear hb a0 a1
    go_wp2
    go_ret2
    exact ⟨by rw [HX.out]; rfl, B1.out⟩
  have hgk := gkB_true.1 hf
  have hbf := bst_facts hgk
  obtain ⟨f, hfn⟩ := Int.eq_ofNat_of_zero_le hbf.ge
  have hf3 : 3 * f ≤ gn := by have := hbf.third; have := HGN.out; omega
  have HBE : Hid ((bstB p es).2 = (f : Int)) := Lib.hid (by rw [bstB_yes hf]; exact hfn)
  have hg50 : gn ≤ 50 := by rw [← HGN.out]; exact hgk.few
  have hfneg : decide ((f : Int) < 0) = false := by simp
  by_cases hz : gn = 0
  · have HX := Lib.hid (fouB_no (p := p) (es := es) (t := t) fun c => by have := c.e0; have := HGN.out; omega)
    subst hz
    clear hf hgk hbf hfn
    go_enter Tryd.func44, Tryd.ntmps44
    go_wp2_with fail
    refine HSB.out.mono ?_
    rintro e w1 ⟨bv, rfl, _, hb⟩
    rw [HBE.out]
    have B1 := Lib.hid (Below.on BL.out hb)
    have q := B0.out.on hb
    have s1 := q.cell 1
    simp at s1
    clear hb a0 a1 q
    go_wp2
    go_ret2
    exact ⟨by rw [HX.out]; rfl, B1.out⟩
  have hz0 : ((gn : Int) == 0) = false := by rw [beq_eq_false_iff_ne]; omega
  by_cases ht : 1 ≤ t ∧ t ≤ 5
  case neg =>
    have HX := Lib.hid (fouB_no (p := p) (es := es) (t := t) fun c => ht ⟨c.t1, c.t5⟩)
    have hd : (decide (1 ≤ t) && decide (t ≤ 5)) = false := by simp; omega
    have HD := Lib.hid hd
    clear hf hgk hbf hfn ht hd
    go_enter Tryd.func44, Tryd.ntmps44
    go_wp2_with fail
    refine HSB.out.mono ?_
    rintro e w1 ⟨bv, rfl, _, hb⟩
    rw [HBE.out]
    have B1 := Lib.hid (Below.on BL.out hb)
    have q := B0.out.on hb
    have s1 := q.cell 1
    simp at s1
    clear hb a0 a1 q
    go_wp2_with fail
    refine (l1In_tb HD.out _).mono ?_
    rintro e w2 ⟨rfl, rfl⟩
    go_wp2
    go_ret2
    exact ⟨by rw [HX.out]; rfl, B1.out⟩
  have hd : (decide (1 ≤ t) && decide (t ≤ 5)) = true := by simp; omega
  have HD := Lib.hid hd
  obtain ⟨T, hT⟩ := Int.eq_ofNat_of_zero_le (show 0 ≤ t by omega)
  subst hT
  have HX := Lib.hid (fou_yes (fouB_true.2 (show Fou p es T from ⟨hgk, by have := HGN.out; omega, ht.1, ht.2⟩)))
  have HFA : Hid (fouA p es = low (gn - f) gn) := Lib.hid (by unfold fouA; rw [hfn, HGN.out]; simp)
  have hT5 : T ≤ 5 := by omega
  have hgn0 : 0 < gn := by omega
  have HSUB : Hid (((gn - f : Nat) : Int) = (gn : Int) - (f : Int)) := Lib.hid (by omega)
  have HL := Lib.hid (fun w' => slow_any (gn - f) gn w' (by omega) (by omega) hgn0)
  rw [HSUB.out] at HL
  obtain ⟨A, hA⟩ : ∃ A, (low (gn - f) gn).1 = A := ⟨_, rfl⟩
  obtain ⟨B, hB⟩ : ∃ B, (low (gn - f) gn).2 = B := ⟨_, rfl⟩
  have hA1 : A ≤ 50 := by rw [← hA]; exact Nat.le_trans (Nat.div_le_self _ _) (by omega)
  have hB1 : B ≤ 50 := by rw [← hB]; exact Nat.le_trans (Nat.div_le_self _ _) hg50
  have HAB : Hid (fou p es T = (((A ^ T : Nat) : Int), ((B ^ T : Nat) : Int))) := Lib.hid (by rw [HX.out, HFA.out, hA, hB]; simp)
  rw [hA, hB] at HL
  clear hf hgk hbf hfn ht hd hA hB HX HFA
  go_enter Tryd.func44, Tryd.ntmps44
  go_wp2_with fail
  refine HSB.out.mono ?_
  rintro e w1 ⟨bv, rfl, _, hb⟩
  rw [HBE.out]
  have B1 := Lib.hid (Below.on BL.out hb)
  have q := B0.out.on hb
  have s1 := q.cell 1
  simp at s1
  clear hb a0 a1 q
  go_wp2_with fail
  refine (l1In_tb HD.out _).mono ?_
  rintro e w2 ⟨rfl, rfl⟩
  go_wp2_with fail
  refine (HL.out _).mono ?_
  rintro e w3 ⟨rfl, hb⟩
  have B3 := Lib.hid (Below.on B1.out hb)
  clear hb s1 hz0 hfneg
  go_wp2
  go_loopw [10, 11, 12] (fun a b i wr => ∃ k : Nat, k ≤ T ∧ i = .int .i64 k ∧ ∃ X Y : Nat, a = .int .i64 X ∧ b = .int .i64 Y ∧ Hid (X = A ^ k) ∧ Hid (Y = B ^ k) ∧ Hid (Below w.heap.size w wr)) (fun _ _ i _ => T - (intOf i).toNat)
  case atStart => exact ⟨0, by omega, rfl, 1, 1, rfl, rfl, Lib.hid rfl, Lib.hid rfl, B3⟩
  case round =>
    obtain ⟨k, hk, rfl, X, Y, rfl, rfl, hX, hY, hBB⟩ := hrel
    obtain ⟨wo, rfl⟩ : ∃ wo : World, wo = wr := ⟨_, rfl⟩
    clear B3
    by_cases hlt : k < T
    · have p1 := pow_step (A := A) (k := k) hA1 (by omega)
      have p2 := pow_step (A := B) (k := k) hB1 (by omega)
      rw [← hX.out] at p1
      rw [← hY.out] at p2
      have x1 := p1.1
      have x2 : ((X * A : Nat) : Int) ≤ 312500000 := by have := p1.2.1; omega
      have y1 := p2.1
      have y2 : ((Y * B : Nat) : Int) ≤ 312500000 := by have := p2.2.1; omega
      have x3 : (0 : Int) ≤ ((X * A : Nat) : Int) := by omega
      have y3 : (0 : Int) ≤ ((Y * B : Nat) : Int) := by omega
      have X4 : Hid (X * A = A ^ (k + 1)) := Lib.hid (p1.2.2.symm)
      have Y4 : Hid (Y * B = B ^ (k + 1)) := Lib.hid (p2.2.2.symm)
      rw [Int.natCast_mul] at x2 x3 y2 y3
      have hlt1 : (k : Int) < (T : Int) := by omega
      clear p1 p2 hX hY
      go_wp2
      go_roundw
      case rel => exact ⟨k + 1, by omega, by go_num, X * A, Y * B, by rw [Int.natCast_mul], by rw [Int.natCast_mul], X4, Y4, hBB⟩
      case measure => simp [intOf]; omega
    · obtain rfl : k = T := by omega
      go_wp2
      go_ret2
      exact ⟨by rw [HAB.out, ← hX.out, ← hY.out]; rfl, hBB.out⟩
end Go.Proofs.YtimkmdedoacpfabDoor
