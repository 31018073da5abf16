/- impl.askThere: the question at a place of the polynomial through others. -/
import Derived.Test.YtljekapbcphdaabDoorOwnA
namespace Go.Proofs.YtljekapbcphdaabDoor
open Go.RowKit

theorem below_two (w : World) (a b : Value) (T : TypeId) : Box (w.alloc (.cells #[a, b] T)) w.heap.size [a, b] := Box.made w [a, b] T

set_option maxRecDepth 20000 in
set_option maxHeartbeats 3200000 in
theorem ithere_any (g place : Int) (v : Value) (d : List (Int × Int)) (B : Nat) (w : World) (G : Gr w) (h : OwnA w B v d) (hd : AtOk g d) (hx : exB g place = true) :
    Calls Tryd.prog 108 #[.int .i64 g, v, .int .i64 place] w fun e w' => e = .returned (.int .i64 (lag g (plD d) (vlD d) place)) ∧ Below w.heap.size w w' := by
  obtain ⟨⟨g0, g4⟩, x0, x1⟩ := exB_true.1 hx
  obtain ⟨o1, o2⟩ := ord_bd g0 g4
  obtain ⟨c0, c1, c2, c3, c4, c5, c6, c7, c8, c9, c10, c11⟩ := id G
  obtain ⟨n, hn⟩ : ∃ n, d.length = n := ⟨_, rfl⟩
  have hn5 : n ≤ 5 := by rw [← hn]; exact hd.len
  obtain ⟨ps, hps⟩ : ∃ ps, plD d = ps := ⟨_, rfl⟩
  obtain ⟨vs, hvs⟩ : ∃ vs, vlD d = vs := ⟨_, rfl⟩
  have HPN := Lib.hid (show ∀ k, k < n → (d[k]!).1 = nth ps k ∧ (d[k]!).2 = nth vs k from fun k hk => by rw [← hps, ← hvs, plD_nth d (by omega), vlD_nth d (by omega)]; exact ⟨rfl, rfl⟩)
  have HLEN := Lib.hid (show ps.length = n by rw [← hps, plD_len, hn])
  have HEX := Lib.hid (show ∀ k, k < n → exB g (nth ps k) = true ∧ exB g (nth vs k) = true from fun k hk => by
    have := HPN.out k hk
    rw [← this.1, ← this.2]; exact ⟨hd.pl k (by omega), hd.vl k (by omega)⟩)
  have HNE := Lib.hid (show ∀ i j, i < n → j < n → j ≠ i → nth ps i ≠ nth ps j from fun i j hi hj hne => by
    rw [← (HPN.out i hi).1, ← (HPN.out j hj).1]; exact hd.ne i j (by omega) (by omega) hne)
  have HG := Lib.hid G
  obtain ⟨LT, hLT⟩ : ∃ f : Nat → Int, ∀ i, lagTo g ps vs place i = f i := ⟨_, fun _ => rfl⟩
  obtain ⟨LP, hLP⟩ : ∃ f : Nat → Nat → Int, ∀ i j, lagP g ps place (nth vs i) i j = f i j := ⟨_, fun _ _ => rfl⟩
  obtain ⟨LF, hLF⟩ : ∃ f : Nat → Nat → Int, ∀ i j, lagF g place (nth ps j) (nth ps i) = f i j := ⟨_, fun _ _ => rfl⟩
  have HQ := Lib.hid (show ∀ (i j : Nat) (w' : World), i < n → j < n → j ≠ i → Below w.heap.size w w' → Calls Tryd.prog 112 #[.int .i64 g, .int .i64 (place - nth ps j), .int .i64 (nth ps i - nth ps j)] w' fun e w'' => e = .returned (.int .i64 (LF i j)) ∧ Below w'.heap.size w' w'' from fun i j w' hi hj hne hb => by
    have := iquot_any g (nth ps i) place (nth ps j) (nth ps j) w' (G.on hb) (HEX.out i hi).1 hx (HEX.out j hj).1 (HEX.out j hj).1 (HNE.out i j hi hj hne)
    rwa [lagF_sec, hLF] at this)
  have HFIT := Lib.hid (show ∀ (i j : Nat), i < n → j < n → 0 ≤ LP i j ∧ LP i j ≤ 113379904 ∧ 0 ≤ LF i j ∧ LF i j ≤ 22 ∧ 0 ≤ LP i j * LF i j ∧ LP i j * LF i j ≤ 2494357888 from fun i j hi hj => by
    obtain ⟨_, e0, e1⟩ := exB_true.1 (HEX.out i hi).2
    rw [← hLP, ← hLF]
    exact lag_fit g0 g4 e0 (by omega) (by omega) _ _)
  have HFIT5 := Lib.hid (show ∀ (i : Nat), i < n → 0 ≤ LP i n ∧ LP i n ≤ 113379904 from fun i hi => by
    obtain ⟨_, e0, e1⟩ := exB_true.1 (HEX.out i hi).2
    rw [← hLP]
    exact lag_fit5 g0 g4 e0 (by omega) (by omega))
  have HBD := Lib.hid (show ∀ i, 0 ≤ LT i ∧ LT i ≤ 22 from fun i => by
    have := lagTo_bd g0 g4 (ps := ps) (vs := vs) (x := place) i
    rw [← hLT]; omega)
  have HSK := Lib.hid (show ∀ i, LP i (i + 1) = LP i i from fun i => by rw [← hLP, ← hLP]; exact lagP_skip g ps place _ i)
  have HST := Lib.hid (show ∀ i j, j ≠ i → LP i (j + 1) = LP i j * LF i j from fun i j h => by rw [← hLP, ← hLP, ← hLF]; exact lagP_step h)
  have HSU := Lib.hid (show ∀ i, LT (i + 1) = (LT i + LP i n) % ord g from fun i => by rw [← hLT, ← hLT, ← hLP, lagTo_succ, HLEN.out])
  have HLAG := Lib.hid (show lag g ps vs place = LT n by unfold lag; rw [HLEN.out, hLT])
  have HL0 := Lib.hid (show LT 0 = 0 by rw [← hLT]; rfl)
  have HP0 := Lib.hid (show ∀ i, LP i 0 = nth vs i from fun i => by rw [← hLP]; rfl)
  have HTM := Lib.hid (show ∀ i, i < n → (LT i + LP i n).tmod (ord g) = (LT i + LP i n) % ord g from fun i hi => Int.tmod_eq_emod_of_nonneg (by have := HBD.out i; have := HFIT5.out i hi; omega))
  clear hLT hLP hLF
  have hp := hd.pos
  obtain ⟨M, cap, rfl⟩ := ownA_form h (by omega)
  have HC := Lib.hid (show ∀ k, k < n → ∀ w', Below w.heap.size w w' → w'.cell? ⟨M, k * 2, none⟩ = some (.int .i64 (nth ps k)) ∧ w'.cell? ⟨M, k * 2 + 1, none⟩ = some (.int .i64 (nth vs k)) from fun k hk w' hb => by
    have hk2 := HPN.out k hk
    have := ownA_at (ownA_below h hb) rfl (show k < d.length by omega)
    rwa [hk2.1, hk2.2] at this)
  rw [hps, hvs, HLAG.out]
  rw [hn]
  obtain ⟨q, hq⟩ : ∃ q, ord g = q := ⟨_, rfl⟩
  rw [hq] at HSU HTM
  have HQQ := Lib.hid hq
  have hq0 : (q == 0) = false := by simp; omega
  have hq1 : 3 ≤ q := by omega
  have hq2 : q ≤ 23 := by omega
  have hq9 : ¬ q = 0 := by omega
  have hx0 : 0 ≤ place := x0
  have hx1 : place ≤ 22 := by omega
  clear h hd hx G hps hvs hn hq hp o1 o2 x0 x1 HLAG HPN
  obtain ⟨gn, hgn⟩ : ∃ gn : Nat, g = gn := ⟨g.toNat, by omega⟩
  have hgo : w.cell? ⟨0, gn * 3 + 1, none⟩ = some (.int .i64 q) := by
    have hq := HQQ.out
    subst hgn
    rcases (show gn = 0 ∨ gn = 1 ∨ gn = 2 ∨ gn = 3 by omega) with rfl | rfl | rfl | rfl
    · simp [ord] at hq; subst hq; exact c1
    · simp [ord] at hq; subst hq; exact c4
    · simp [ord] at hq; subst hq; exact c7
    · simp [ord] at hq; subst hq; exact c10
  clear c0 c1 c2 c3 c4 c5 c6 c7 c8 c9 c10 c11
  have hg9 : (gn : Int) < 4 := by omega
  subst hgn
  go_enter Tryd.func108, Tryd.ntmps108
  go_wp2
  clear hgo
  go_loopw [8, 20] (fun s i wr => ∃ k : Nat, k ≤ n ∧ i = .int .i64 k ∧ s = .int .i64 (LT k) ∧ Hid (Below w.heap.size w wr)) (fun _ i _ => n - (intOf i).toNat)
  case atStart => exact ⟨0, by omega, rfl, by rw [HL0.out], Lib.hid (Below.refl _ _)⟩
  case round =>
    obtain ⟨k, hk, rfl, rfl, hB⟩ := hrel
    obtain ⟨wo, rfl⟩ : ∃ wo : World, wo = wr := ⟨_, rfl⟩
    by_cases hkn : k < n
    · have hk1 : (k : Int) < (n : Int) := by omega
      obtain ⟨a0, a1⟩ := HC.out k hkn wo hB.out
      obtain ⟨b0, b1⟩ := HBD.out k
      obtain ⟨e0, e1⟩ := HFIT5.out k hkn
      have p0 := (below_two wo (.int .i64 (nth ps k)) (.int .i64 (nth vs k)) 91).cell 0
      have p1 := (below_two wo (.int .i64 (nth ps k)) (.int .i64 (nth vs k)) 91).cell 1
      simp at p0 p1
      go_wp2
      obtain ⟨w1, hw1⟩ : ∃ w1, w1 = wo.alloc (.cells #[.int .i64 (nth ps k), .int .i64 (nth vs k)] 91) := ⟨_, rfl⟩
      have BX := Lib.hid (below_two wo (.int .i64 (nth ps k)) (.int .i64 (nth vs k)) 91)
      have BL := Lib.hid (Below.on hB.out (below_grow wo (.cells #[.int .i64 (nth ps k), .int .i64 (nth vs k)] 91)))
      rw [← hw1] at BX BL ⊢
      clear hw1 a0 a1 p0 p1
      go_loopw [11, 29] (fun p i wr => ∃ j : Nat, j ≤ n ∧ i = .int .i64 j ∧ p = .int .i64 (LP k j) ∧ Hid (Below w1.heap.size w1 wr)) (fun _ i _ => n - (intOf i).toNat)
      case atStart => exact ⟨0, by omega, rfl, by rw [HP0.out], Lib.hid (Below.refl _ _)⟩
      case round =>
        obtain ⟨j, hj, rfl, rfl, hT⟩ := hrel
        obtain ⟨wi, rfl⟩ : ∃ wi : World, wi = wr := ⟨_, rfl⟩
        by_cases hjn : j < n
        · have hj1 : (j : Int) < (n : Int) := by omega
          have BB := Lib.hid (Below.on BL.out hT.out)
          obtain ⟨a0, a1⟩ := HC.out j hjn wi BB.out
          have r0 := ((below_two wi (.int .i64 (nth ps j)) (.int .i64 (nth vs j)) 91)).cell 0
          have p0 := ((BX.out.on hT.out).alloc (.cells #[.int .i64 (nth ps j), .int .i64 (nth vs j)] 91)).cell 0
          simp at r0 p0
          have TZ := Lib.hid (Below.on hT.out (below_grow wi (.cells #[.int .i64 (nth ps j), .int .i64 (nth vs j)] 91)))
          by_cases hjk : j = k
          · have hne : ((j : Int) != (k : Int)) = false := by simp; omega
            have HJK := Lib.hid hjk
            clear hjk
            go_wp2
            go_roundw
            case rel => exact ⟨j + 1, by omega, by go_num, by rw [HJK.out, HSK.out], TZ⟩
            case measure => simp [intOf]; omega
          · have hne : ((j : Int) != (k : Int)) = true := by simp; omega
            obtain ⟨f0, f1, f2, f3, f4, f5⟩ := HFIT.out k j hkn hjn
            obtain ⟨_, y0, y1⟩ := exB_true.1 (HEX.out j hjn).1
            obtain ⟨_, z0, z1⟩ := exB_true.1 (HEX.out k hkn).1
            rw [HQQ.out] at y1 z1
            go_wp2_with fail
            refine (HQ.out k j _ hkn hjn hjk (Below.on BL.out TZ.out)).mono ?_
            rintro e w3 ⟨rfl, hb⟩
            have TY := Lib.hid (Below.on TZ.out hb)
            clear hb p0 r0
            go_wp2
            go_roundw
            case rel => exact ⟨j + 1, by omega, by go_num, by rw [HST.out _ _ hjk], TY⟩
            case measure => simp [intOf]; omega
        · obtain rfl : j = n := by omega
          have hj1 : ¬ (j : Int) < (j : Int) := by omega
          have TB := Lib.hid (Below.on BL.out hT.out)
          have hre := HTM.out k hkn
          go_wp2
          go_roundw
          case rel => exact ⟨k + 1, by omega, by go_num, by rw [HSU.out], TB⟩
          case measure => simp [intOf]; omega
    · obtain rfl : k = n := by omega
      have hk1 : ¬ (k : Int) < (k : Int) := by omega
      go_wp2
      go_ret
      exact ⟨rfl, hB.out⟩
end Go.Proofs.YtljekapbcphdaabDoor
