/- impl: entriesOk, TableOk. -/
import Derived.Test.YtipndddmjgjgpabDoorBRd
import Derived.Test.YtipndddmjgjgpabDoorPureG
namespace Go.Proofs.YtipndddmjgjgpabDoor
open Go.RowKit

theorem bit_yes {xs : List Int} (h : ∀ j, j < xs.length → nth xs j = 0 ∨ nth xs j = 1) : bitB xs = true := bitB_true.2 h
theorem bit_no {xs : List Int} {k : Nat} (hk : k < xs.length) (h : ¬ (nth xs k = 0 ∨ nth xs k = 1)) : bitB xs = false := by
  cases hb : bitB xs
  · rfl
  · exact absurd (bitB_true.1 hb k hk) h

theorem ient_any (v : Value) (xs : List Int) (w : World) (h : Ints w v xs) : Calls Tryd.prog 79 #[v] w fun e w' => e = .returned (.bool (bitB xs)) ∧ Below w.heap.size w w' := by
  obtain ⟨a, c, rfl, k1⟩ := h.opened
  obtain ⟨n, hn⟩ : ∃ n, xs.length = n := ⟨_, rfl⟩
  have hmax := k1.max
  have HC := Lib.hid (show ∀ w', Below w.heap.size w w' → ∀ k, k < n → _ from fun w' hb k hk => (k1.on hb).get k (by rw [hn]; exact hk))
  have HY := Lib.hid (show (∀ j, j < n → nth xs j = 0 ∨ nth xs j = 1) → bitB xs = true from fun h => bit_yes fun j hj => h j (by rw [← hn]; exact hj))
  have HN := Lib.hid (show ∀ k, k < n → ¬ (nth xs k = 0 ∨ nth xs k = 1) → bitB xs = false from fun k hk h => bit_no (by rw [hn]; exact hk) h)
  rw [hn] at hmax ⊢
  unfold maxLen at hmax
  clear h k1 hn
  go_enter Tryd.func79, Tryd.ntmps79
  go_wp2
  go_loopw [7] (fun i wr => ∃ k : Nat, k ≤ n ∧ i = .int .i64 k ∧ Hid (∀ j, j < k → nth xs j = 0 ∨ nth xs j = 1) ∧ Hid (Below w.heap.size w wr)) (fun i _ => n - (intOf i).toNat)
  case atStart => exact ⟨0, by omega, rfl, Lib.hid (fun j hj => by omega), Lib.hid (Below.refl _ _)⟩
  case round =>
    obtain ⟨k, hk, rfl, hj, hb⟩ := hrel
    obtain ⟨wo, rfl⟩ : ∃ wo : World, wo = wr := ⟨_, rfl⟩
    by_cases hlt : k < n
    · obtain ⟨A, rfl, _, hc⟩ := HC.out _ hb.out k hlt
      by_cases he : nth xs k = 0 ∨ nth xs k = 1
      · have HJ : Hid (∀ j, j < k + 1 → nth xs j = 0 ∨ nth xs j = 1) := Lib.hid (fun j hj' => by
          by_cases e : j < k
          · exact hj.out j e
          · obtain rfl : j = k := by omega
            exact he)
        obtain ⟨y, hy⟩ : ∃ y, nth xs k = y := ⟨_, rfl⟩
        rw [hy] at he hc
        clear hj hy
        rcases he with rfl | rfl
        · go_wp2
          go_roundw
          case rel => exact ⟨k + 1, by omega, by go_num, HJ, hb⟩
          case measure => simp [intOf]; omega
        · go_wp2
          go_roundw
          case rel => exact ⟨k + 1, by omega, by go_num, HJ, hb⟩
          case measure => simp [intOf]; omega
      · have HX := Lib.hid (HN.out k hlt he)
        obtain ⟨y, hy⟩ : ∃ y, nth xs k = y := ⟨_, rfl⟩
        rw [hy] at he hc
        have h0 : (y == 0) = false := by rw [beq_eq_false_iff_ne]; omega
        have h1 : (y == 1) = false := by rw [beq_eq_false_iff_ne]; omega
        have h0' : (y != 0) = true := by rw [bne_iff_ne]; omega
        have h1' : (y != 1) = true := by rw [bne_iff_ne]; omega
        clear hj hy he
        go_wp2
        go_ret
        exact ⟨by rw [HX.out]; rfl, hb.out⟩
    · obtain rfl : k = n := by omega
      have HX := Lib.hid (HY.out hj.out)
      go_wp2
      go_ret
      exact ⟨by rw [HX.out]; rfl, hb.out⟩

/-- Rows of the same length as the first one, of entries 0 and 1, so far. -/
def TabTo (t : List (List Int)) (k : Nat) : Prop := ∀ j, j < k → (row t j).length = (row t 0).length ∧ bitB (row t j) = true

set_option maxHeartbeats 3200000 in
theorem itab_any (v : Value) (t : List (List Int)) (w : World) (h : IntSS w v t) :
    Calls Tryd.prog 53 #[v] w fun e w' => e = .returned (.bool (tabB t)) ∧ Below w.heap.size w w' := by
  obtain ⟨a, c, rfl, k1⟩ := h.opened
  have hm1 := k1.max
  have HC := Lib.hid (show ∀ w', Below w.heap.size w w' → ∀ k, k < t.length → _ from fun w' hb k hk => (k1.on hb).get k hk)
  obtain ⟨n, hn⟩ : ∃ n, t.length = n := ⟨_, rfl⟩
  obtain ⟨u, hu⟩ : ∃ u, (row t 0).length = u := ⟨_, rfl⟩
  have HN := Lib.hid (show ∀ p : Prop, (Tab t → p) → ¬ p → tabB t = false from fun p h1 h2 => tabB_false fun hc => h2 (h1 hc))
  have HY := Lib.hid (show 1 ≤ n → n ≤ 12 → 1 ≤ u → u ≤ 8 → TabTo t n → tabB t = true from by
    subst hn hu
    intro h1 h2 h3 h4 h5
    exact tabB_true.2 ⟨h1, h2, h3, h4, fun k hk => (h5 k hk).1, fun k j hk hj => bitB_true.1 (h5 k hk).2 j hj⟩)
  have H1 := Lib.hid (show Tab t → 1 ≤ n ∧ n ≤ 12 from fun h => by rw [← hn]; exact ⟨h.r1, h.r2⟩)
  have U1 := Lib.hid (show Tab t → 1 ≤ u ∧ u ≤ 8 from fun h => by rw [← hu]; exact ⟨h.a1, h.a2⟩)
  have UR := Lib.hid (show Tab t → ∀ j, j < n → (row t j).length = u ∧ bitB (row t j) = true from fun h j hj => ⟨by rw [← hu]; exact h.len j (by rw [hn]; exact hj), bitB_true.2 (h.bit j · (by rw [hn]; exact hj))⟩)
  rw [hn] at hm1 HC ⊢
  unfold maxLen at hm1
  clear h k1 hn
  by_cases c1 : 1 ≤ n ∧ n ≤ 12
  case neg =>
    have HX := Lib.hid (HN.out _ H1.out c1)
    by_cases c2 : n < 1
    · obtain rfl : n = 0 := by omega
      go_enter Tryd.func53, Tryd.ntmps53
      go_wp2
      go_ret
      exact ⟨by rw [HX.out]; rfl, Below.refl _ _⟩
    · have c3 : (12 : Int) < (n : Int) := by omega
      have c4 : ¬ (n : Int) < 1 := by omega
      go_enter Tryd.func53, Tryd.ntmps53
      go_wp2
      go_ret
      exact ⟨by rw [HX.out]; rfl, Below.refl _ _⟩
  obtain ⟨n1, n12⟩ := c1
  obtain ⟨G0, x0, rfl, _, hc0, hx0⟩ := HC.out w (Below.refl _ _) 0 (by omega)
  obtain ⟨a0, c0, rfl, _⟩ := hx0.opened
  rw [hu] at hc0
  have HU := Lib.hid hu
  clear hx0 hu
  by_cases c2 : 1 ≤ u ∧ u ≤ 8
  case neg =>
    have HX := Lib.hid (HN.out _ U1.out c2)
    by_cases c3 : u < 1
    · obtain rfl : u = 0 := by omega
      go_enter Tryd.func53, Tryd.ntmps53
      go_wp2
      go_ret
      exact ⟨by rw [HX.out]; rfl, Below.refl _ _⟩
    · have c4 : (8 : Int) < (u : Int) := by omega
      have c5 : ¬ (u : Int) < 1 := by omega
      go_enter Tryd.func53, Tryd.ntmps53
      go_wp2
      go_ret
      exact ⟨by rw [HX.out]; rfl, Below.refl _ _⟩
  obtain ⟨u1, u8⟩ := c2
  go_enter Tryd.func53, Tryd.ntmps53
  go_wp2
  clear hc0
  go_loopw [26] (fun i wr => ∃ k : Nat, k ≤ n ∧ i = .int .i64 k ∧ Hid (TabTo t k) ∧ Hid (Below w.heap.size w wr)) (fun i _ => n - (intOf i).toNat)
  case atStart => exact ⟨0, by omega, rfl, Lib.hid (fun j hj => by omega), Lib.hid (Below.refl _ _)⟩
  case round =>
    obtain ⟨k, hk, rfl, hj, hb⟩ := hrel
    obtain ⟨wo, rfl⟩ : ∃ wo : World, wo = wr := ⟨_, rfl⟩
    by_cases hlt : k < n
    · obtain ⟨G1, x, e1, _, hc, hx⟩ := HC.out _ hb.out k hlt
      obtain rfl : G0 = G1 := by cases e1; rfl
      obtain ⟨ax, cx, rfl, _⟩ := id hx.opened
      have HI := Lib.hid hx
      obtain ⟨l, hl⟩ : ∃ l, (row t k).length = l := ⟨_, rfl⟩
      have HLL := Lib.hid hl
      rw [hl] at hc HI
      clear hx e1 hl
      by_cases hlu : l = u
      · subst hlu
        have hd : ((l : Int) != (l : Int)) = false := by simp
        go_wp2_with fail
        refine (ient_any _ (row t k) _ HI.out).mono ?_
        rintro e w2 ⟨rfl, hb2⟩
        have B2 := Lib.hid (Below.on hb.out hb2)
        clear hb2 hc hb
        cases he : bitB (row t k)
        · have HX := Lib.hid (HN.out _ UR.out (fun h => by have := (h k hlt).2; rw [he] at this; cases this))
          go_wp2
          go_ret
          exact ⟨by rw [HX.out]; rfl, B2.out⟩
        · have HJ : Hid (TabTo t (k + 1)) := Lib.hid (fun j hj' => by
            by_cases e : j < k
            · exact hj.out j e
            · obtain rfl : j = k := by omega
              exact ⟨by rw [HLL.out, HU.out], he⟩)
          clear hj he
          go_wp2
          go_roundw
          case rel => exact ⟨k + 1, by omega, by go_num, HJ, B2⟩
          case measure => simp [intOf]; omega
      · have hd : ((l : Int) != (u : Int)) = true := by rw [bne_iff_ne]; omega
        have hd2 : ((l : Int) == (u : Int)) = false := by rw [beq_eq_false_iff_ne]; omega
        have HX := Lib.hid (HN.out _ UR.out (fun h => hlu (by rw [← HLL.out]; exact (h k hlt).1)))
        clear hlu
        go_wp2
        go_ret
        exact ⟨by rw [HX.out]; rfl, hb.out⟩
    · obtain rfl : k = n := by omega
      have HX := Lib.hid (HY.out n1 n12 u1 u8 hj.out)
      go_wp2
      go_ret
      exact ⟨by rw [HX.out]; rfl, hb.out⟩
end Go.Proofs.YtipndddmjgjgpabDoor
