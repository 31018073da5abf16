/- impl: lowest, fractionPower, FoundOut. -/
import Derived.Test.YtimkmdedoacpfabDoorFouP
import Derived.Test.YtimkmdedoacpfabDoorColB
namespace Go.Proofs.YtimkmdedoacpfabDoor
open Go.RowKit

set_option maxHeartbeats 3200000 in
theorem ilow_any (u d : Nat) (w : World) (hu : u ≤ 1000000) (hd : d ≤ 1000000) (h0 : 0 < d) : Calls Tryd.prog 94 #[.int .i64 u, .int .i64 d] w fun e w' => e = .returned (.tuple #[.int .i64 ((low u d).1 : Int), .int .i64 ((low u d).2 : Int)]) ∧ Below w.heap.size w w' := by
  obtain ⟨A, hA⟩ : ∃ A, (low u d).1 = A := ⟨_, rfl⟩
  obtain ⟨B, hB2⟩ : ∃ B, (low u d).2 = B := ⟨_, rfl⟩
  have HA := Lib.hid hA
  have HB := Lib.hid hB2
  have hA1 : A ≤ 1000000 := by rw [← hA]; exact Nat.le_trans (Nat.div_le_self _ _) hu
  have hB1 : B ≤ 1000000 := by rw [← hB2]; exact Nat.le_trans (Nat.div_le_self _ _) hd
  rw [hA, hB2]
  clear hA hB2
  have B0 := Lib.hid (Below.refl w.heap.size w)
  have G0 : Hid (Nat.gcd (u : Int).toNat (d : Int).toNat = Nat.gcd u d) := Lib.hid (by simp)
  have HG : Hid (0 < Nat.gcd u d) := Lib.hid (Nat.gcd_pos_of_pos_right u h0)
  go_enter Tryd.func94, Tryd.ntmps94
  go_wp2
  go_loopw [6, 7] (fun a b wr => ∃ X Y : Int, a = .int .i64 X ∧ b = .int .i64 Y ∧ 0 ≤ X ∧ X ≤ 1000000 ∧ 0 ≤ Y ∧ Y ≤ 1000000 ∧ Hid (Nat.gcd X.toNat Y.toNat = Nat.gcd u d) ∧ Hid (Below w.heap.size w wr)) (fun _ b _ => (intOf b).toNat)
  case atStart => exact ⟨u, d, rfl, rfl, by omega, by omega, by omega, by omega, G0, B0⟩
  case round =>
    obtain ⟨X, Y, rfl, rfl, X0, X1, Y0, Y1, hg, hB⟩ := hrel
    obtain ⟨wo, rfl⟩ : ∃ wo : World, wo = wr := ⟨_, rfl⟩
    clear G0 B0
    by_cases hy : Y = 0
    · subst hy
      obtain ⟨g, hgg⟩ : ∃ g : Nat, X = (g : Int) := ⟨X.toNat, by omega⟩
      subst hgg
      have hgd : g = Nat.gcd u d := by have := hg.out; simpa using this
      have hg0 : 0 < g := by rw [hgd]; exact HG.out
      have QA : Hid (wrap64 ((u : Int) / (g : Int)) = (A : Int)) := Lib.hid (by
        have e : (u : Int) / (g : Int) = (A : Int) := by rw [← HA.out, hgd]; exact (Int.natCast_ediv u (Nat.gcd u d)).symm
        rw [e]; exact w64_in (by omega) (by omega))
      have QB : Hid (wrap64 ((d : Int) / (g : Int)) = (B : Int)) := Lib.hid (by
        have e : (d : Int) / (g : Int) = (B : Int) := by rw [← HB.out, hgd]; exact (Int.natCast_ediv d (Nat.gcd u d)).symm
        rw [e]; exact w64_in (by omega) (by omega))
      have hgz : ((g : Int) == 0) = false := by rw [beq_eq_false_iff_ne]; omega
      have hgn : ¬ (g : Int) = 0 := by omega
      have hd : ((0 : Int) != 0) = false := by simp
      have BD := Lib.hid (show Below w.heap.size w wo.drew from hB.out.drew)
      clear hg hgd hB
      go_wp2_with fail
      refine wp_region_cls (C := fun w' => Hid (Below w.heap.size w w')) (by kernel_rfl) (by kernel_rfl) BD ?_
      repeat (first | go_big_quiet_skip | (go_big_quiet_want; go_big_quiet_op; first | go_big_quiet_on | (refine ⟨_, fun _ _ => rfl, ?_⟩; go_big_quiet_on)))
      refine wpQuiet_nil ?_
      intro w3 hw3
      clear BD
      go_wp2
      go_ret2
      exact ⟨by show Ending.returned (.tuple #[.int .i64 (wrap64 ((u : Int) / (g : Int))), .int .i64 (wrap64 ((d : Int) / (g : Int)))]) = _; rw [QA.out, QB.out], hw3.out⟩
    · have hd : ((Y : Int) != 0) = true := by simpa using hy
      obtain ⟨R, hR⟩ : ∃ R, X.tmod Y = R := ⟨_, rfl⟩
      have hb := tmod_bd X Y (by omega)
      have hmo : R = X % Y := by rw [← hR]; exact Int.tmod_eq_emod_of_nonneg X0
      have hR0 : 0 ≤ R := by rw [hmo]; exact Int.emod_nonneg _ hy
      rw [hR] at hb
      have GN : Hid (Nat.gcd Y.toNat R.toNat = Nat.gcd u d) := Lib.hid (by
        have e : R.toNat = X.toNat % Y.toNat := by rw [hmo]; exact Int.toNat_emod X0 Y0
        rw [e, Nat.gcd_comm, ← hg.out, Nat.gcd_comm X.toNat, Nat.gcd_rec Y.toNat X.toNat])
      have hyb : (Y == 0) = false := by rw [beq_eq_false_iff_ne]; exact hy
      have hRY : R < Y := by omega
      have BD := Lib.hid (show Below w.heap.size w wo.drew from hB.out.drew)
      clear hg hmo hb hB
      go_wp2_with fail
      refine wp_region_cls (C := fun w' => Hid (Below w.heap.size w w')) (by kernel_rfl) (by kernel_rfl) BD ?_
      repeat (first | go_big_quiet_skip | (go_big_quiet_want; go_big_quiet_op; first | go_big_quiet_on | (refine ⟨_, fun _ _ => rfl, ?_⟩; go_big_quiet_on)))
      refine wpQuiet_nil ?_
      intro w3 hw3
      clear hR BD
      go_wp2
      go_roundw
      case rel => exact ⟨Y, R, rfl, rfl, by omega, by omega, by omega, by omega, GN, hw3⟩
      case measure => simp [intOf]; omega

theorem pow_step {A k : Nat} (ha : A ≤ 50) (hk : k + 1 ≤ 5) : A ^ k ≤ 312500000 ∧ A ^ k * A ≤ 312500000 ∧ A ^ (k + 1) = A ^ k * A :=
  ⟨pow_few8 ha (by omega), by rw [← Nat.pow_succ]; exact pow_few8 ha hk, by rw [Nat.pow_succ]⟩
set_option maxHeartbeats 3200000 in
theorem ifp_any (u d t : Nat) (w : World) (hu : u ≤ 50) (hd : d ≤ 50) (h0 : 0 < d) (ht : t ≤ 5) : Calls Tryd.prog 78 #[.int .i64 u, .int .i64 d, .int .i64 t] w fun e w' => e = .returned (.tuple #[.int .i64 (((low u d).1 ^ t : Nat) : Int), .int .i64 (((low u d).2 ^ t : Nat) : Int)]) ∧ Below w.heap.size w w' := by
  have HL := Lib.hid (ilow_any u d w (by omega) (by omega) h0)
  obtain ⟨A, hA⟩ : ∃ A, (low u d).1 = A := ⟨_, rfl⟩
  obtain ⟨B, hB⟩ : ∃ B, (low u d).2 = B := ⟨_, rfl⟩
  have hA1 : A ≤ 50 := by rw [← hA]; exact Nat.le_trans (Nat.div_le_self _ _) hu
  have hB1 : B ≤ 50 := by rw [← hB]; exact Nat.le_trans (Nat.div_le_self _ _) hd
  rw [hA, hB] at HL ⊢
  clear hA hB
  go_enter Tryd.func78, Tryd.ntmps78
  go_wp2_with fail
  refine HL.out.mono ?_
  rintro e w1 ⟨rfl, hb⟩
  have B1 := Lib.hid hb
  clear hb
  go_wp2
  go_loopw [8, 9, 17] (fun a b i wr => ∃ k : Nat, k ≤ t ∧ i = .int .i64 k ∧ ∃ X Y : Nat, a = .int .i64 X ∧ b = .int .i64 Y ∧ Hid (X = A ^ k) ∧ Hid (Y = B ^ k) ∧ Hid (Below w.heap.size w wr)) (fun _ _ i _ => t - (intOf i).toNat)
  case atStart => exact ⟨0, by omega, rfl, 1, 1, rfl, rfl, Lib.hid rfl, Lib.hid rfl, B1⟩
  case round =>
    obtain ⟨k, hk, rfl, X, Y, rfl, rfl, hX, hY, hB⟩ := hrel
    obtain ⟨wo, rfl⟩ : ∃ wo : World, wo = wr := ⟨_, rfl⟩
    clear B1
    by_cases hlt : k < t
    · have p1 := pow_step (A := A) (k := k) hA1 (by omega)
      have p2 := pow_step (A := B) (k := k) hB1 (by omega)
      rw [← hX.out] at p1
      rw [← hY.out] at p2
      have x1 := p1.1
      have x2 : ((X * A : Nat) : Int) ≤ 312500000 := by have := p1.2.1; omega
      have y1 := p2.1
      have y2 : ((Y * B : Nat) : Int) ≤ 312500000 := by have := p2.2.1; omega
      have x3 : (0 : Int) ≤ ((X * A : Nat) : Int) := by omega
      have y3 : (0 : Int) ≤ ((Y * B : Nat) : Int) := by omega
      have X4 : Hid (X * A = A ^ (k + 1)) := Lib.hid (p1.2.2.symm)
      have Y4 : Hid (Y * B = B ^ (k + 1)) := Lib.hid (p2.2.2.symm)
      rw [Int.natCast_mul] at x2 x3 y2 y3
      have hlt1 : (k : Int) < (t : Int) := by omega
      clear p1 p2 hX hY
      go_wp2
      go_roundw
      case rel => exact ⟨k + 1, by omega, by go_num, X * A, Y * B, by rw [Int.natCast_mul], by rw [Int.natCast_mul], X4, Y4, hB⟩
      case measure => simp [intOf]; omega
    · obtain rfl : k = t := by omega
      go_wp2
      go_ret2
      exact ⟨by rw [← hX.out, ← hY.out]; rfl, hB.out⟩

/-- What FoundOut gives, letter by letter. -/
def FuPost (p : Int) (es : List Int) (t : Int) (w : World) (e : Ending) (w' : World) : Prop := e = .returned (.tuple #[.int .i64 (fou p es t).1, .int .i64 (fou p es t).2]) ∧ Below w.heap.size w w'
theorem fouB_no {p t : Int} {es : List Int} (h : ¬ Fou p es t) : fou p es t = (-1, -1) := by
  refine fou_no ?_
  cases hb : fouB p es t
  · rfl
  · exact absurd (fouB_true.1 hb) h

set_option maxRecDepth 20000 in
set_option maxHeartbeats 3200000 in
theorem ifu_any (p t : Int) (v : Value) (es : List Int) (w : World) (h : Ints w v es) (hs : ∀ j, j < es.length → intIn (nth es j)) : Calls Tryd.prog 43 #[.agg #[.int .i64 p, v], .int .i64 t] w (FuPost p es t w) := by
  obtain ⟨ga, gc, rfl, h1⟩ := h.opened
  have hgm := h1.max
  obtain ⟨gn, hgn⟩ : ∃ gn, es.length = gn := ⟨_, rfl⟩
  have HGN := Lib.hid hgn
  rw [hgn] at h hgm ⊢
  unfold maxLen at hgm
  clear h1
  have b0 := Box.made w [.int .i64 p, .slice ga gn gc] 25
  have bl := below_grow w (.cells #[.int .i64 p, .slice ga gn gc] 25)
  have HG := Lib.hid (show ∀ w', Below w.heap.size w w' → Ints w' (.slice ga gn gc) es from fun w' hb => h.below hb)
  have HS := Lib.hid hs
  have a0 := b0.cell 0
  have a1 := b0.cell 1
  simp at a0 a1
  have B0 := Lib.hid b0
  have BL := Lib.hid bl
  clear h hs b0 bl hgn
  cases hf : gkB p es
  · have HX := Lib.hid (fouB_no (p := p) (es := es) (t := t) fun c => by rw [gkB_true.2 c.gk] at hf; cases hf)
    have HF := Lib.hid hf
    clear hf
    go_enter Tryd.func43, Tryd.ntmps43
    go_wp2_with fail
    refine (igk_is HF.out (HG.out _ BL.out) HS.out).mono ?_
    rintro e w1 ⟨rfl, hb⟩
    have B1 := Lib.hid (Below.on BL.out hb)
    clear hb a0 a1
    go_wp2
    go_ret2
    exact ⟨by rw [HX.out]; rfl, B1.out⟩
  have HF := Lib.hid hf
  have hgk := gkB_true.1 hf
  have HGK := Lib.hid hgk
  by_cases hbad : gn = 0 ∨ t < 1 ∨ 5 < t
  · have HX := Lib.hid (fouB_no (p := p) (es := es) (t := t) fun c => by have := c.e0; have := c.t1; have := c.t5; have := HGN.out; omega)
    clear hf hgk
    rcases hbad with rfl | hbad
    · go_enter Tryd.func43, Tryd.ntmps43
      go_wp2_with fail
      refine (igk_is HF.out (HG.out _ BL.out) HS.out).mono ?_
      rintro e w1 ⟨rfl, hb⟩
      have B1 := Lib.hid (Below.on BL.out hb)
      have q := B0.out.on hb
      have s0 := q.cell 0
      have s1 := q.cell 1
      simp at s0 s1
      clear hb a0 a1 q
      go_wp2
      go_ret2
      exact ⟨by rw [HX.out]; rfl, B1.out⟩
    · by_cases hz : gn = 0
      · subst hz
        go_enter Tryd.func43, Tryd.ntmps43
        go_wp2_with fail
        refine (igk_is HF.out (HG.out _ BL.out) HS.out).mono ?_
        rintro e w1 ⟨rfl, hb⟩
        have B1 := Lib.hid (Below.on BL.out hb)
        have q := B0.out.on hb
        have s0 := q.cell 0
        have s1 := q.cell 1
        simp at s0 s1
        clear hb a0 a1 q
        go_wp2
        go_ret2
        exact ⟨by rw [HX.out]; rfl, B1.out⟩
      · have hz0 : ((gn : Int) == 0) = false := by rw [beq_eq_false_iff_ne]; omega
        by_cases h1 : t < 1
        · have d1 : decide (t < 1) = true := by simpa using h1
          go_enter Tryd.func43, Tryd.ntmps43
          go_wp2_with fail
          refine (igk_is HF.out (HG.out _ BL.out) HS.out).mono ?_
          rintro e w1 ⟨rfl, hb⟩
          have B1 := Lib.hid (Below.on BL.out hb)
          have q := B0.out.on hb
          have s0 := q.cell 0
          have s1 := q.cell 1
          simp at s0 s1
          clear hb a0 a1 q
          go_wp2
          go_ret2
          exact ⟨by rw [HX.out]; rfl, B1.out⟩
        · have d1 : decide (t < 1) = false := by simpa using h1
          have d2 : decide (5 < t) = true := by simp; omega
          go_enter Tryd.func43, Tryd.ntmps43
          go_wp2_with fail
          refine (igk_is HF.out (HG.out _ BL.out) HS.out).mono ?_
          rintro e w1 ⟨rfl, hb⟩
          have B1 := Lib.hid (Below.on BL.out hb)
          have q := B0.out.on hb
          have s0 := q.cell 0
          have s1 := q.cell 1
          simp at s0 s1
          clear hb a0 a1 q
          go_wp2
          go_ret2
          exact ⟨by rw [HX.out]; rfl, B1.out⟩
  have hz0 : ((gn : Int) == 0) = false := by rw [beq_eq_false_iff_ne]; omega
  have d1 : decide (t < 1) = false := by simp; omega
  have d2 : decide (5 < t) = false := by simp; omega
  obtain ⟨T, hT⟩ := Int.eq_ofNat_of_zero_le (show 0 ≤ t by omega)
  subst hT
  have HX := Lib.hid (fou_yes (fouB_true.2 (show Fou p es T from ⟨hgk, by have := HGN.out; omega, by omega, by omega⟩)))
  have hbf := bst_facts hgk
  obtain ⟨f, hfn⟩ := Int.eq_ofNat_of_zero_le hbf.ge
  have hf3 : 3 * f ≤ gn := by have := hbf.third; have := HGN.out; omega
  have HBE : Hid (bstB p es = bst p es) := Lib.hid (bstB_yes hf)
  have HFA : Hid (fouA p es = low (gn - f) gn) := Lib.hid (by unfold fouA; rw [hfn, HGN.out]; simp)
  have HFN := Lib.hid hfn
  have hg50 : gn ≤ 50 := by rw [← HGN.out]; exact hgk.few
  have HT5 : Hid (T ≤ 5) := Lib.hid (by omega)
  have hgn0 : 0 < gn := by omega
  have HSB : Hid (((gn - f : Nat) : Int) = (gn : Int) - (f : Int)) := Lib.hid (by omega)
  clear hf hgk hbad hbf hfn
  go_enter Tryd.func43, Tryd.ntmps43
  go_wp2_with fail
  refine (igk_is HF.out (HG.out _ BL.out) HS.out).mono ?_
  rintro e w1 ⟨rfl, hb⟩
  have B1 := Lib.hid (Below.on BL.out hb)
  have P1 := Lib.hid (B0.out.on hb)
  have s0 := P1.out.cell 0
  have s1 := P1.out.cell 1
  simp at s0 s1
  clear hb a0 a1
  go_wp2_with fail
  refine (ibc_any p (.slice ga gn gc) es _ (HG.out _ B1.out) HS.out).mono ?_
  rintro e w2 ⟨bv, rfl, _, hb⟩
  rw [HBE.out, HFN.out]
  have B2 := Lib.hid (Below.on B1.out hb)
  have P2 := Lib.hid (P1.out.on hb)
  clear hb s0 s1
  have s0 := P2.out.cell 0
  have s1 := P2.out.cell 1
  simp at s0 s1
  have HFP := Lib.hid (ifp_any (gn - f) gn T w2 (by omega) hg50 hgn0 HT5.out)
  rw [HSB.out] at HFP
  go_wp2_with fail
  refine HFP.out.mono ?_
  rintro e w3 ⟨rfl, hb⟩
  have B3 := Lib.hid (Below.on B2.out hb)
  clear hb s0 s1
  go_wp2
  go_ret2
  exact ⟨by rw [HX.out, HFA.out]; simp, B3.out⟩
end Go.Proofs.YtimkmdedoacpfabDoor
