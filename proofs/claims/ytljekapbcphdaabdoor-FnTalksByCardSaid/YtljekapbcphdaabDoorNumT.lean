/- spec.l4Code, impl.someNumber: a talk as one number. -/
import Derived.Test.YtljekapbcphdaabDoorSofP
import Derived.Deep.Cut
namespace Go.Proofs.YtljekapbcphdaabDoor
open Go.RowKit

/-- A talk, digit by digit. -/
def codeTo (ss xs ts : List Int) : Nat → Int
  | 0 => 0
  | k + 1 => ((codeTo ss xs ts k * 50 + nth ss k) * 50 + nth xs k) * 50 + nth ts k
theorem codeTo_succ (ss xs ts : List Int) (k : Nat) : codeTo ss xs ts (k + 1) = ((codeTo ss xs ts k * 50 + nth ss k) * 50 + nth xs k) * 50 + nth ts k := rfl
/-- Lists of so many digits. -/
structure Digs (ss xs ts : List Int) (n : Nat) : Prop where
  l1 : ss.length = n
  l2 : xs.length = n
  l3 : ts.length = n
  n2 : n ≤ 2
  d : ∀ k, k < n → (0 ≤ nth ss k ∧ nth ss k ≤ 49) ∧ (0 ≤ nth xs k ∧ nth xs k ≤ 49) ∧ (0 ≤ nth ts k ∧ nth ts k ≤ 49)
def numP (D A B C : Int) : Nat → Int
  | 0 => D
  | 1 => D * 50 + A
  | 2 => (D * 50 + A) * 50 + B
  | _ + 3 => ((D * 50 + A) * 50 + B) * 50 + C
def numD (A B C : Int) : Nat → Int
  | 0 => A
  | 1 => B
  | _ + 2 => C
theorem codeTo_bd {ss xs ts : List Int} {n : Nat} (h : Digs ss xs ts n) : ∀ k, k < n → 0 ≤ codeTo ss xs ts k ∧ codeTo ss xs ts k ≤ 124999
  | 0, _ => by simp [codeTo]
  | 1, hk => by
    obtain ⟨⟨a, b⟩, ⟨c, d⟩, e, f⟩ := h.d 0 (by omega)
    simp only [codeTo]; omega
  | k + 2, hk => by have := h.n2; omega

set_option maxHeartbeats 3200000 in
theorem scode_any (q : Int) (sv xv tv : Value) (ss xs ts : List Int) (n : Nat) (w : World) (h1 : Ints w sv ss) (h2 : Ints w xv xs) (h3 : Ints w tv ts) (hd : Digs ss xs ts n) : Calls Tryd.prog 83 #[.agg #[sv, .int .i64 q, xv, tv]] w fun e w' => e = .returned (.int .i64 (codeTo ss xs ts n)) ∧ Below w.heap.size w w' := by
  obtain ⟨sa, sc, rfl, k1⟩ := h1.opened
  obtain ⟨xa, xc, rfl, k2⟩ := h2.opened
  obtain ⟨ta, tc, rfl, k3⟩ := h3.opened
  have HD := Lib.hid hd
  have n2 := hd.n2
  have HCS := Lib.hid (show ∀ k, k < n → ∃ X, sa = some ⟨X, 0, none⟩ ∧ ∀ w', Below w.heap.size w w' → w'.cell? ⟨X, k, none⟩ = some (.int .i64 (nth ss k)) from fun k hk => by
    obtain ⟨M, e1, hl, e2⟩ := k1.get k (by rw [hd.l1]; exact hk)
    exact ⟨M, e1, fun w' hb => (hb.cell (p := ⟨M, k, none⟩) hl).trans e2⟩)
  have HCX := Lib.hid (show ∀ k, k < n → ∃ X, xa = some ⟨X, 0, none⟩ ∧ ∀ w', Below w.heap.size w w' → w'.cell? ⟨X, k, none⟩ = some (.int .i64 (nth xs k)) from fun k hk => by
    obtain ⟨M, e1, hl, e2⟩ := k2.get k (by rw [hd.l2]; exact hk)
    exact ⟨M, e1, fun w' hb => (hb.cell (p := ⟨M, k, none⟩) hl).trans e2⟩)
  have HCT := Lib.hid (show ∀ k, k < n → ∃ X, ta = some ⟨X, 0, none⟩ ∧ ∀ w', Below w.heap.size w w' → w'.cell? ⟨X, k, none⟩ = some (.int .i64 (nth ts k)) from fun k hk => by
    obtain ⟨M, e1, hl, e2⟩ := k3.get k (by rw [hd.l3]; exact hk)
    exact ⟨M, e1, fun w' hb => (hb.cell (p := ⟨M, k, none⟩) hl).trans e2⟩)
  have HI := Lib.hid (show Ints w (.slice sa ss.length sc) ss ∧ Ints w (.slice xa xs.length xc) xs ∧ Ints w (.slice ta ts.length tc) ts from ⟨h1, h2, h3⟩)
  rw [hd.l1, hd.l2, hd.l3] at HI ⊢
  have HL := Lib.hid (show ss.length = n ∧ xs.length = n ∧ ts.length = n from ⟨hd.l1, hd.l2, hd.l3⟩)
  obtain ⟨CD, hCD⟩ : ∃ f : Nat → Int, f = codeTo ss xs ts := ⟨_, rfl⟩
  have HC0 := Lib.hid (show CD 0 = 0 by rw [hCD]; rfl)
  have HCN := Lib.hid (show codeTo ss xs ts n = CD n by rw [hCD])
  have HCU := Lib.hid (show ∀ k, CD (k + 1) = ((CD k * 50 + nth ss k) * 50 + nth xs k) * 50 + nth ts k from fun k => by rw [hCD]; rfl)
  have HCB := Lib.hid (show ∀ k, k < n → 0 ≤ CD k ∧ CD k ≤ 124999 from fun k hk => by rw [hCD]; exact codeTo_bd HD.out k hk)
  rw [HCN.out]
  clear hd hCD h1 h2 h3 k1 k2 k3
  obtain ⟨P, hP⟩ : ∃ P : List Value, P = [.slice sa n sc, .int .i64 q, .slice xa n xc, .slice ta n tc] := ⟨_, rfl⟩
  have BX := Lib.hid (show ∀ w', Below (w.heap.size + 1) (w.alloc (.cells #[.slice sa n sc, .int .i64 q, .slice xa n xc, .slice ta n tc] 75)) w' → Box w' w.heap.size [.slice sa n sc, .int .i64 q, .slice xa n xc, .slice ta n tc] ∧ Below w.heap.size w w' from fun w' hb => by
    have hz : (w.alloc (.cells #[.slice sa n sc, .int .i64 q, .slice xa n xc, .slice ta n tc] 75)).heap.size = w.heap.size + 1 := by simp
    rw [← hz] at hb
    exact ⟨(Box.made w _ _).on hb, Below.on (below_grow _ _) hb⟩)
  clear hP P
  have B0 := Lib.hid (show Below (w.heap.size + 1) (w.alloc (.cells #[.slice sa n sc, .int .i64 q, .slice xa n xc, .slice ta n tc] 75)) (w.alloc (.cells #[.slice sa n sc, .int .i64 q, .slice xa n xc, .slice ta n tc] 75)) from Below.refl _ _)
  obtain ⟨W0, hW0⟩ : ∃ W, W = w.alloc (.cells #[.slice sa n sc, .int .i64 q, .slice xa n xc, .slice ta n tc] 75) := ⟨_, rfl⟩
  rw [← hW0] at BX B0
  have HSZ := Lib.hid (show W0.heap.size = w.heap.size + 1 by rw [hW0]; simp)
  go_enter Tryd.func83, Tryd.ntmps83
  go_wp2
  go_loopw [3, 4] (fun c i wr => ∃ k : Nat, k ≤ n ∧ i = .int .i64 k ∧ c = .int .i64 (CD k) ∧ Hid (Below (w.heap.size + 1) W0 wr)) (fun _ i _ => n - (intOf i).toNat)
  case atStart => exact ⟨0, by omega, rfl, by rw [HC0.out], by rw [← hW0]; exact B0⟩
  case round =>
    clear B0 hW0
    obtain ⟨k, hk, rfl, rfl, hB⟩ := hrel
    obtain ⟨wo, rfl⟩ : ∃ wo : World, wo = wr := ⟨_, rfl⟩
    have q0 := (BX.out _ hB.out).1.cell 0; have q2 := (BX.out _ hB.out).1.cell 2; have q3 := (BX.out _ hB.out).1.cell 3
    simp at q0 q2 q3
    by_cases hkn : k < n
    · have hk1 : (k : Int) < (n : Int) := by omega
      obtain ⟨b0, b1⟩ := HCB.out k hkn
      obtain ⟨⟨d0, d1⟩, ⟨d2, d3⟩, d4, d5⟩ := HD.out.d k hkn
      obtain ⟨X1, rfl, c1⟩ := HCS.out k hkn
      obtain ⟨X2, rfl, c2⟩ := HCX.out k hkn
      obtain ⟨X3, rfl, c3⟩ := HCT.out k hkn
      have e1 := c1 _ (BX.out _ hB.out).2; have e2 := c2 _ (BX.out _ hB.out).2; have e3 := c3 _ (BX.out _ hB.out).2
      have hst := HCU.out k
      clear c1 c2 c3
      go_wp2
      go_roundw
      case rel => exact ⟨k + 1, by omega, by go_num, by rw [hst], hB⟩
      case measure => simp [intOf]; omega
    · obtain rfl : n = k := by omega
      have hk1 : ¬ (n : Int) < (n : Int) := by omega
      go_wp2
      go_ret
      exact ⟨rfl, (BX.out _ hB.out).2⟩

set_option maxHeartbeats 3200000 in
theorem icode_any (q : Int) (sv xv tv : Value) (ss xs ts : List Int) (n : Nat) (w : World) (h1 : Ints w sv ss) (h2 : Ints w xv xs) (h3 : Ints w tv ts) (hd : Digs ss xs ts n) : Calls Tryd.prog 87 #[.agg #[sv, .int .i64 q, xv, tv]] w fun e w' => e = .returned (.int .i64 (codeTo ss xs ts n)) ∧ Below w.heap.size w w' := by
  obtain ⟨sa, sc, rfl, k1⟩ := h1.opened
  obtain ⟨xa, xc, rfl, k2⟩ := h2.opened
  obtain ⟨ta, tc, rfl, k3⟩ := h3.opened
  have HD := Lib.hid hd
  have n2 := hd.n2
  have HCS := Lib.hid (show ∀ k, k < n → ∃ X, sa = some ⟨X, 0, none⟩ ∧ ∀ w', Below w.heap.size w w' → w'.cell? ⟨X, k, none⟩ = some (.int .i64 (nth ss k)) from fun k hk => by
    obtain ⟨M, e1, hl, e2⟩ := k1.get k (by rw [hd.l1]; exact hk)
    exact ⟨M, e1, fun w' hb => (hb.cell (p := ⟨M, k, none⟩) hl).trans e2⟩)
  have HCX := Lib.hid (show ∀ k, k < n → ∃ X, xa = some ⟨X, 0, none⟩ ∧ ∀ w', Below w.heap.size w w' → w'.cell? ⟨X, k, none⟩ = some (.int .i64 (nth xs k)) from fun k hk => by
    obtain ⟨M, e1, hl, e2⟩ := k2.get k (by rw [hd.l2]; exact hk)
    exact ⟨M, e1, fun w' hb => (hb.cell (p := ⟨M, k, none⟩) hl).trans e2⟩)
  have HCT := Lib.hid (show ∀ k, k < n → ∃ X, ta = some ⟨X, 0, none⟩ ∧ ∀ w', Below w.heap.size w w' → w'.cell? ⟨X, k, none⟩ = some (.int .i64 (nth ts k)) from fun k hk => by
    obtain ⟨M, e1, hl, e2⟩ := k3.get k (by rw [hd.l3]; exact hk)
    exact ⟨M, e1, fun w' hb => (hb.cell (p := ⟨M, k, none⟩) hl).trans e2⟩)
  have HI := Lib.hid (show Ints w (.slice sa ss.length sc) ss ∧ Ints w (.slice xa xs.length xc) xs ∧ Ints w (.slice ta ts.length tc) ts from ⟨h1, h2, h3⟩)
  rw [hd.l1, hd.l2, hd.l3] at HI ⊢
  have HL := Lib.hid (show ss.length = n ∧ xs.length = n ∧ ts.length = n from ⟨hd.l1, hd.l2, hd.l3⟩)
  obtain ⟨CD, hCD⟩ : ∃ f : Nat → Int, f = codeTo ss xs ts := ⟨_, rfl⟩
  have HC0 := Lib.hid (show CD 0 = 0 by rw [hCD]; rfl)
  have HCN := Lib.hid (show codeTo ss xs ts n = CD n by rw [hCD])
  have HCU := Lib.hid (show ∀ k, CD (k + 1) = ((CD k * 50 + nth ss k) * 50 + nth xs k) * 50 + nth ts k from fun k => by rw [hCD]; rfl)
  have HCB := Lib.hid (show ∀ k, k < n → 0 ≤ CD k ∧ CD k ≤ 124999 from fun k hk => by rw [hCD]; exact codeTo_bd HD.out k hk)
  rw [HCN.out]
  clear hd hCD h1 h2 h3 k1 k2 k3
  obtain ⟨P, hP⟩ : ∃ P : List Value, P = [.slice sa n sc, .int .i64 q, .slice xa n xc, .slice ta n tc] := ⟨_, rfl⟩
  have BX := Lib.hid (show ∀ w', Below (w.heap.size + 1) (w.alloc (.cells #[.slice sa n sc, .int .i64 q, .slice xa n xc, .slice ta n tc] 75)) w' → Box w' w.heap.size [.slice sa n sc, .int .i64 q, .slice xa n xc, .slice ta n tc] ∧ Below w.heap.size w w' from fun w' hb => by
    have hz : (w.alloc (.cells #[.slice sa n sc, .int .i64 q, .slice xa n xc, .slice ta n tc] 75)).heap.size = w.heap.size + 1 := by simp
    rw [← hz] at hb
    exact ⟨(Box.made w _ _).on hb, Below.on (below_grow _ _) hb⟩)
  clear hP P
  have B0 := Lib.hid (show Below (w.heap.size + 1) (w.alloc (.cells #[.slice sa n sc, .int .i64 q, .slice xa n xc, .slice ta n tc] 75)) (w.alloc (.cells #[.slice sa n sc, .int .i64 q, .slice xa n xc, .slice ta n tc] 75)) from Below.refl _ _)
  obtain ⟨W0, hW0⟩ : ∃ W, W = w.alloc (.cells #[.slice sa n sc, .int .i64 q, .slice xa n xc, .slice ta n tc] 75) := ⟨_, rfl⟩
  rw [← hW0] at BX B0
  have HSZ := Lib.hid (show W0.heap.size = w.heap.size + 1 by rw [hW0]; simp)
  go_enter Tryd.func87, Tryd.ntmps87
  have i0 := (BX.out _ B0.out).1.cell 0
  simp at i0
  rw [hW0] at i0
  go_wp2
  go_loopw [3, 11] (fun c i wr => ∃ k : Nat, k ≤ n ∧ i = .int .i64 k ∧ c = .int .i64 (CD k) ∧ Hid (Below (w.heap.size + 1) W0 wr)) (fun _ i _ => n - (intOf i).toNat)
  case atStart => exact ⟨0, by omega, rfl, by rw [HC0.out], by rw [← hW0]; exact B0⟩
  case round =>
    clear B0 i0
    have HW0 := Lib.hid hW0
    clear hW0
    obtain ⟨k, hk, rfl, rfl, hB⟩ := hrel
    obtain ⟨wo, rfl⟩ : ∃ wo : World, wo = wr := ⟨_, rfl⟩
    by_cases hkn : k < n
    · have q0 := (BX.out _ hB.out).1.cell 0; have q1 := (BX.out _ hB.out).1.cell 1; have q2 := (BX.out _ hB.out).1.cell 2; have q3 := (BX.out _ hB.out).1.cell 3
      simp at q0 q1 q2 q3
      have hk1 : (k : Int) < (n : Int) := by omega
      obtain ⟨b0, b1⟩ := HCB.out k hkn
      obtain ⟨⟨d0, d1⟩, ⟨d2, d3⟩, d4, d5⟩ := HD.out.d k hkn
      go_wp2_with fail
      refine (italkAt_any _ q _ _ ss xs ts n k _ (HI.out.1.below (BX.out _ hB.out).2) (HI.out.2.1.below (BX.out _ hB.out).2) (HI.out.2.2.below (BX.out _ hB.out).2) HL.out.1 HL.out.2.1 HL.out.2.2 hkn).mono ?_
      rintro e w2 ⟨rfl, hb⟩
      clear q0 q1 q2 q3
      have B2 := Lib.hid (show Below (w.heap.size + 1) W0 w2 from hB.out.trans (hb.mono (by have := hB.out.size; have := HSZ.out; omega)))
      clear hb
      obtain ⟨A, hA⟩ : ∃ A, nth ss k = A := ⟨_, rfl⟩
      obtain ⟨B, hB1⟩ : ∃ A, nth xs k = A := ⟨_, rfl⟩
      obtain ⟨C, hC⟩ : ∃ A, nth ts k = A := ⟨_, rfl⟩
      have HST := Lib.hid (show CD (k + 1) = ((CD k * 50 + A) * 50 + B) * 50 + C by rw [HCU.out, hA, hB1, hC])
      rw [hA] at d0 d1 ⊢; rw [hB1] at d2 d3 ⊢; rw [hC] at d4 d5 ⊢
      clear hA hB1 hC
      obtain ⟨D, hD⟩ : ∃ D, CD k = D := ⟨_, rfl⟩
      rw [hD] at b0 b1 HST ⊢
      clear hD
      obtain ⟨PT, hPT⟩ : ∃ f : Nat → Int, f = numP D A B C := ⟨_, rfl⟩
      obtain ⟨DG, hDG⟩ : ∃ f : Nat → Int, f = numD A B C := ⟨_, rfl⟩
      have HP0 := Lib.hid (show PT 0 = D by rw [hPT]; rfl)
      have HP3 := Lib.hid (show PT 3 = CD (k + 1) by rw [hPT, HST.out]; rfl)
      have HPS := Lib.hid (show ∀ j, j < 3 → PT (j + 1) = PT j * 50 + DG j ∧ (0 ≤ PT j ∧ PT j ≤ 400000000) ∧ (0 ≤ DG j ∧ DG j ≤ 49) from fun j hj => by
        rw [hPT, hDG]
        obtain rfl | rfl | rfl : j = 0 ∨ j = 1 ∨ j = 2 := by omega
        · have e0 : numP D A B C 0 = D := rfl
          have e1 : numP D A B C (0 + 1) = D * 50 + A := rfl
          have f0 : numD A B C 0 = A := rfl
          rw [e0, e1, f0]; omega
        · have e0 : numP D A B C 1 = D * 50 + A := rfl
          have e1 : numP D A B C (1 + 1) = (D * 50 + A) * 50 + B := rfl
          have f0 : numD A B C 1 = B := rfl
          rw [e0, e1, f0]; omega
        · have e0 : numP D A B C 2 = (D * 50 + A) * 50 + B := rfl
          have e1 : numP D A B C (2 + 1) = ((D * 50 + A) * 50 + B) * 50 + C := rfl
          have f0 : numD A B C 2 = C := rfl
          rw [e0, e1, f0]; omega)
      have HLC := Lib.hid (show ∀ j, j < 3 → ((w2.alloc (.cells #[.int .i64 A, .int .i64 B, .int .i64 C] 84)).alloc (.cells #[.int .i64 A, .int .i64 B, .int .i64 C] 3)).cell? ⟨w2.heap.size + 1, j, none⟩ = some (.int .i64 (DG j)) from fun j hj => by
        rw [hDG]
        obtain rfl | rfl | rfl : j = 0 ∨ j = 1 ∨ j = 2 := by omega
        · simp [numD]
        · simp [numD]
        · simp [numD])
      clear hPT hDG
      have B3 := Lib.hid (show Below (w.heap.size + 1) W0 ((w2.alloc (.cells #[.int .i64 A, .int .i64 B, .int .i64 C] 84)).alloc (.cells #[.int .i64 A, .int .i64 B, .int .i64 C] 3)) from B2.out.trans ((Below.on (below_grow w2 (.cells #[.int .i64 A, .int .i64 B, .int .i64 C] 84)) (below_grow _ (.cells #[.int .i64 A, .int .i64 B, .int .i64 C] 3))).mono (by have := B2.out.size; have := HSZ.out; omega)))
      go_wp2
      go_loop [3, 25] (fun c i => ∃ j : Nat, j ≤ 3 ∧ i = .int .i64 j ∧ c = .int .i64 (PT j)) (fun _ i => 3 - (intOf i).toNat)
      case atStart => exact ⟨0, by omega, rfl, by rw [HP0.out]⟩
      case round =>
        obtain ⟨j, hj, rfl, rfl⟩ := hrel
        by_cases hjn : j < 3
        · have hj1 : (j : Int) < 3 := by omega
          obtain ⟨s1, ⟨s2, s3⟩, s4, s5⟩ := HPS.out j hjn
          have c0 := HLC.out j hjn
          go_wp2
          go_round
          case rel => exact ⟨j + 1, by omega, by go_num, by rw [s1]⟩
          case measure => simp [intOf]; omega
        · obtain rfl : j = 3 := by omega
          have hj1 : ¬ ((3 : Nat) : Int) < 3 := by omega
          go_wp2
          go_roundw
          case rel => exact ⟨k + 1, by omega, by go_num, by rw [HP3.out], B3⟩
          case measure => simp [intOf]; omega
    · obtain rfl : n = k := by omega
      have hk1 : ¬ (n : Int) < (n : Int) := by omega
      go_wp2
      go_ret
      exact ⟨rfl, (BX.out _ hB.out).2⟩
end Go.Proofs.YtljekapbcphdaabDoor
