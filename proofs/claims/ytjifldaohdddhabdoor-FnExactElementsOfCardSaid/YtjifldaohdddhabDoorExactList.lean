/- markIntS, heldIntS, and the exact law of ElementsOf, walked. -/
import Derived.Test.YtjifldaohdddhabDoorWalkFb
import Derived.Test.YtjifldaohdddhabDoorWalkH
namespace Go.Proofs.YtjifldaohdddhabDoor
open Go.RowKit

theorem grown_trans' {w w1 w2 : World} {g : Nat} (h : w.grownBy w1 (some g)) (k : w1.grownBy w2 (some g)) : w.grownBy w2 (some g) :=
  ⟨k.os.trans h.os, k.tape.trans h.tape, k.output.trans h.output, Nat.le_trans h.size k.size, fun i hi hr => (k.block i (Nat.lt_of_lt_of_le hi h.size) hr).trans (h.block i hi hr)⟩

def markTo (xs : List Int) (m : Int) : Nat → List Int
  | 0 => xs
  | k + 1 => (markTo xs m k).set k (m + k)
theorem markTo_len (xs : List Int) (m : Int) : ∀ k, (markTo xs m k).length = xs.length
  | 0 => rfl
  | k + 1 => by unfold markTo; rw [List.length_set]; exact markTo_len xs m k
theorem markTo_nth (xs : List Int) (m : Int) : ∀ k, k ≤ xs.length → ∀ j, j < k → nth (markTo xs m k) j = m + j
  | 0, _, j, hj => by omega
  | k + 1, hk, j, hj => by
    have hl : k < (markTo xs m k).length := by rw [markTo_len]; omega
    unfold markTo nth
    rw [List.getD_eq_getElem?_getD]
    by_cases e : k = j
    · subst e; rw [List.getElem?_set_self hl]; rfl
    · rw [List.getElem?_set_ne e, ← List.getD_eq_getElem?_getD]
      exact markTo_nth xs m k (by omega) j (by omega)

theorem mark_any (v : Value) (xs : List Int) (m : Int) (B : Nat) (w : World) (h : Own w B v xs) (hl : xs.length ≤ 1000) (m0 : 0 ≤ m) (m1 : m ≤ 100000) :
    Calls Tryd.prog 30 #[v, .int .i64 m] w fun e w' => e = .returned (.int .i64 (m + xs.length)) ∧ Own w' B v (markTo xs m xs.length) ∧ w.grownBy w' v.ownBlock := by
  have hh := h
  rcases h.2 with ⟨rfl, hn⟩ | ⟨g, cap, cur, rfl, hB, hg, hnc, hcm, hcs, htake⟩
  · obtain rfl : xs = [] := List.length_eq_zero_iff.1 hn
    clear hn h
    have HH := Lib.hid hh; clear hh
    go_enter Tryd.func30, Tryd.ntmps30
    go_wp2
    go_loop [1, 5] (fun n i => n = .int .i64 m ∧ i = .int .i64 0) (fun _ _ => 0)
    case atStart => exact ⟨rfl, rfl⟩
    case round =>
      obtain ⟨rfl, rfl⟩ := hrel
      go_wp2
      go_ret
      exact ⟨by simp, HH.out, rfl, rfl, rfl, Nat.le_refl _, fun _ _ _ => rfl⟩
  · have HH := Lib.hid hh
    clear h hh hg hcs htake
    go_enter Tryd.func30, Tryd.ntmps30
    go_wp2
    go_loopw [1, 5] (fun n i wr => ∃ k : Nat, k ≤ xs.length ∧ i = .int .i64 k ∧ n = .int .i64 (m + k) ∧ Hid (Own wr B (.slice (some ⟨g, 0, none⟩) xs.length cap) (markTo xs m k)) ∧ Hid (w.grownBy wr (some g))) (fun _ i _ => xs.length - (intOf i).toNat)
    case atStart => exact ⟨0, by omega, rfl, by simp, Lib.hid HH.out, Lib.hid ⟨rfl, rfl, rfl, Nat.le_refl _, fun _ _ _ => rfl⟩⟩
    case round =>
      obtain ⟨k, hk, rfl, rfl, ho, hgr⟩ := hrel
      by_cases hlt : k < xs.length
      · have ho' : wr.ownsRow B 3 1 (.slice (some ⟨g, 0, none⟩) xs.length cap) xs.length ((markTo xs m k).map (Value.int .i64)) := by have := ho.out; unfold Own at this; rwa [markTo_len] at this
        have hf := ho'.frozenAt k
        have hc : wr.cell? ⟨g, k, none⟩ = some (.int .i64 (nth (markTo xs m k) k)) := by
          have hc := @World.ownsRow.cells _ _ _ _ _ _ _ ho' g rfl k (.int .i64 (nth (markTo xs m k) k)) (by
            have hl : k < (markTo xs m k).length := by rw [markTo_len]; omega
            rw [List.getElem?_map, List.getElem?_eq_getElem hl, nth_get hl]; rfl)
          have hadd : (⟨g, 0, none⟩ : Addr).add k = ⟨g, k, none⟩ := by unfold Addr.add; split <;> simp_all
          rw [← hadd]; exact hc
        have hst := ho'.stored k (.int .i64 (m + (k : Int)))
        have H1 : Hid (Own (wr.setCell ⟨g, k, none⟩ (.int .i64 (m + (k : Int)))) B (.slice (some ⟨g, 0, none⟩) xs.length cap) (markTo xs m (k + 1))) := Lib.hid (by
          unfold Own; rw [markTo_len]
          have := hst.1
          rwa [← List.map_set] at this)
        have H2 : Hid (w.grownBy (wr.setCell ⟨g, k, none⟩ (.int .i64 (m + (k : Int)))) (some g)) := Lib.hid (grown_trans' hgr.out hst.2)
        clear hst ho' ho hgr
        go_wp2
        go_roundw
        case rel => exact ⟨k + 1, by omega, by go_num, by go_num, H1, H2⟩
        case measure => simp [intOf]; omega
      · obtain rfl : k = xs.length := by omega
        go_wp2
        go_ret
        exact ⟨rfl, ho.out, hgr.out⟩

theorem held_any (v : Value) (ys : List Int) (m : Int) (w : World) (h : Ints w v ys) (hl : ys.length ≤ 1000) (m0 : 0 ≤ m) (m1 : m ≤ 100000) (hm : ∀ j, j < ys.length → nth ys j = m + j) :
    Calls Tryd.prog 31 #[v, .int .i64 m] w fun e w' => e = .returned (.int .i64 (m + ys.length)) ∧ w = w' := by
  rcases h with ⟨rfl, rfl⟩ | ⟨g, cap, rfl, hl', hg, hc⟩
  · clear hm
    go_enter Tryd.func31, Tryd.ntmps31
    go_wp2
    go_loop [1, 5] (fun n i => n = .int .i64 m ∧ i = .int .i64 0) (fun _ _ => 0)
    case atStart => exact ⟨rfl, rfl⟩
    case round =>
      obtain ⟨rfl, rfl⟩ := hrel
      go_wp2
      go_ret
      exact ⟨by simp, rfl⟩
  · have HC := Lib.hid hc; clear hc
    have HM := Lib.hid hm; clear hm hl'
    go_enter Tryd.func31, Tryd.ntmps31
    go_wp2
    go_loop [1, 5] (fun n i => ∃ k : Nat, k ≤ ys.length ∧ i = .int .i64 k ∧ n = .int .i64 (m + k)) (fun _ i => ys.length - (intOf i).toNat)
    case atStart => exact ⟨0, by omega, rfl, by simp⟩
    case round =>
      obtain ⟨k, hk, rfl, rfl⟩ := hrel
      by_cases hlt : k < ys.length
      · have hc := HC.out k hlt
        rw [HM.out k hlt] at hc
        go_wp2
        go_round
        case rel => exact ⟨k + 1, by omega, by go_num, by go_num⟩
        case measure => simp [intOf]; omega
      · obtain rfl : k = ys.length := by omega
        go_wp2
        go_ret
        exact ⟨rfl, rfl⟩

theorem els_max (g : Int) : (els g).length ≤ maxLen := by have := @els_len g; unfold maxLen; omega
theorem mark_max (g m : Int) (k : Nat) : (markTo (els g) m k).length ≤ maxLen := by rw [markTo_len]; exact els_max g
theorem Own.drew {w : World} {B : Nat} {v : Value} {xs : List Int} (h : Own w B v xs) (n : Nat) : Own (w.drewN n) B v xs := h
theorem own_apart {w w' : World} {B B' : Nat} {v u : Value} {xs : List Int} (h : Own w B v xs) (hlt : ∀ k, v.ownBlock = some k → k < B') (hu : ∀ k, u.ownBlock = some k → B' ≤ k) (hg : w.grownBy w' u.ownBlock) : Own w' B v xs :=
  h.kept hg (by
    cases hv : v.ownBlock with
    | none => exact .inl rfl
    | some k => exact .inr (fun e => by have := hlt k hv; have := hu k e.symm; omega))

set_option maxHeartbeats 1600000 in
theorem xElementsOf_walk (a : Int) (w : World) (G : Gr w) : Calls Tryd.prog 10 #[.int .i64 a] w fun e w' => e = .returned (.bool true) ∧ Below w.heap.size w w' := by
  have hn := @els_len a
  have HS := Lib.hid (sameB_refl (els a))
  go_enter Tryd.func10, Tryd.ntmps10
  go_wp2_with fail
  refine (sels_any _ _).mono ?_
  rintro e w1 ⟨v0, rfl, O0, hb1⟩
  have G1 := Lib.hid (G.on hb1)
  have L0 := Lib.hid (fun k hk => (O0.lt k hk).2)
  go_wp2_with fail
  refine (iels_any _ _ G1.out).mono ?_
  rintro e w2 ⟨v1, rfl, O1, hb2⟩
  have L1 := Lib.hid (fun k hk => (O1.lt k hk).1)
  have A0 := Lib.hid (own_below O0 hb2)
  have A1 := Lib.hid O1
  have B2 := Lib.hid (Below.on hb1 hb2)
  have G2 := Lib.hid (G1.out.on hb2)
  clear O0 O1 hb2
  go_wp2_with fail
  refine (eqs_any _ _ _ _ _ (Ints.of_own A1.out (els_max a)) (Ints.of_own A0.out (els_max a))).mono ?_
  rintro e w3 ⟨rfl, n3, hw3⟩
  rw [HS.out]
  have A0' : Hid (Own w3 w.heap.size v0 (els a)) := Lib.hid (by rw [hw3]; exact A0.out)
  have A1' : Hid (Own w3 w1.heap.size v1 (els a)) := Lib.hid (by rw [hw3]; exact A1.out)
  have B3 : Hid (Below w.heap.size w w3) := Lib.hid (by rw [hw3]; exact below_drewN B2.out n3)
  have G3 : Hid (Gr w3) := Lib.hid (by rw [hw3]; exact G2.out.drewN n3)
  clear A0 A1 B2 hw3
  go_wp2_with fail
  refine (mark_any v1 (els a) 1 w1.heap.size _ A1'.out (by omega) (by omega) (by omega)).mono ?_
  rintro e w4 ⟨rfl, O4, hg4⟩
  have A0 : Hid (Own w4 w.heap.size v0 (els a)) := Lib.hid (own_apart A0'.out L0.out L1.out hg4)
  have A1 := Lib.hid O4
  have B4 : Hid (Below w.heap.size w w4) := Lib.hid (B3.out.grown hg4 B3.out.size (fun k hk => Nat.le_trans hb1.size (L1.out k hk)))
  have G4 : Hid (Gr w4) := Lib.hid (G.on B4.out)
  clear O4 hg4 A0' A1' B3 G3
  go_wp2_with fail
  refine (held_any v1 _ 1 _ (Ints.of_own A1.out (mark_max a 1 _)) (by rw [markTo_len]; omega) (by omega) (by omega) (fun j hj => markTo_nth _ _ _ (Nat.le_refl _) j (by rwa [markTo_len] at hj))).mono ?_
  rintro e w5 ⟨rfl, rfl⟩
  rw [markTo_len]
  go_wp2_with fail
  refine (iels_any _ _ G4.out).mono ?_
  rintro e w6 ⟨v2, rfl, O6, hb6⟩
  have A0' := Lib.hid (own_below A0.out hb6)
  have A1' := Lib.hid (own_below A1.out hb6)
  have A2' := Lib.hid O6
  have B6 : Hid (Below w.heap.size w w6) := Lib.hid (B4.out.trans (hb6.mono B4.out.size))
  clear O6 hb6 A0 A1
  go_wp2_with fail
  refine (eqs_any _ _ _ _ _ (Ints.of_own A2'.out (els_max a)) (Ints.of_own A0'.out (els_max a))).mono ?_
  rintro e w7 ⟨rfl, n7, hw7⟩
  rw [HS.out]
  have A1 : Hid (Own w7 w1.heap.size v1 (markTo (els a) 1 (els a).length)) := Lib.hid (by rw [hw7]; exact A1'.out)
  have B7 : Hid (Below w.heap.size w w7) := Lib.hid (by rw [hw7]; exact below_drewN B6.out n7)
  clear hw7
  go_wp2_with fail
  refine (held_any v1 _ 1 _ (Ints.of_own A1.out (mark_max a 1 _)) (by rw [markTo_len]; omega) (by omega) (by omega) (fun j hj => markTo_nth _ _ _ (Nat.le_refl _) j (by rwa [markTo_len] at hj))).mono ?_
  rintro e w8 ⟨rfl, rfl⟩
  rw [markTo_len]
  go_wp2
  go_ret
  exact ⟨rfl, B7.out⟩

end Go.Proofs.YtjifldaohdddhabDoor
