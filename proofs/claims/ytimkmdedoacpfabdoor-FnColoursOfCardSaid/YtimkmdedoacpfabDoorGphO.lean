/- GraphOk, asked of a list that lies behind the first place of its block. -/
import Derived.Test.YtimkmdedoacpfabDoorGphI
namespace Go.Proofs.YtimkmdedoacpfabDoor
open Go.RowKit

set_option maxHeartbeats 6400000 in
theorem igkt_any (p : Int) (a : Option Addr) (m c : Nat) (es : List Int) (w : World) (hm : es.length = m) (hm1 : es.length ≤ maxLen) (hc0 : ∀ k, k < es.length → ∃ G, a = some ⟨G, 1, none⟩ ∧ ∀ w', Below w.heap.size w w' → w'.cell? ⟨G, 1 + k, none⟩ = some (.int .i64 (nth es k))) (hs : ∀ j, j < es.length → intIn (nth es j)) :
    Calls Tryd.prog 54 #[.agg #[.int .i64 p, .slice a m c]] w fun e w' => e = .returned (.bool (gkB p es)) ∧ Below w.heap.size w w' := by
  subst hm
  have HC := Lib.hid hc0
  clear hc0
  obtain ⟨n, hn⟩ : ∃ n, es.length = n := ⟨_, rfl⟩
  have HN := Lib.hid (show ∀ q : Prop, (Gk p es → q) → ¬ q → gkB p es = false from fun q h1 h2 => gkB_false fun hc => h2 (h1 hc))
  have HY := Lib.hid (show 1 ≤ p → p ≤ 5 → GkTo p es n → gkB p es = true from by
    subst hn
    intro h2 h3 h4
    exact gkB_true.2 ⟨h2, h3, fun j hj => h4.ed j hj h2, asc_next.2 h4.asc⟩)
  have H2 := Lib.hid (show Gk p es → 1 ≤ p ∧ p ≤ 5 from fun h => ⟨h.p1, h.p5⟩)
  have H3 := Lib.hid (show Gk p es → ∀ k, k < n → Ed p (nth es k) from fun h k hk => h.ed k (by omega))
  have H4 := Lib.hid (show Gk p es → ∀ k, k < n → bef es k < nth es k from fun h k hk => by
    match k, hk with
    | 0, hk => exact (h.ed 0 (by omega)).pos
    | j + 1, hk => exact asc_next.1 h.asc j (by omega))
  have HS := Lib.hid (show ∀ k, k < n → intIn (nth es k) from fun k hk => hs k (by omega))
  rw [hn] at hm1 HC ⊢
  unfold maxLen at hm1
  clear hn hs
  have I0 := Lib.hid (InB.start w [.int .i64 p, .slice a n c] 25)
  have b0 := I0.out.box.cell 0
  have b1 := I0.out.box.cell 1
  simp at b0 b1
  by_cases g1 : p < 1
  · have HX := Lib.hid (HN.out _ H2.out (by omega))
    have d1 : decide (p < 1) = true := by simpa using g1
    go_enter Tryd.func54, Tryd.ntmps54
    go_wp2
    go_ret
    exact ⟨by rw [HX.out]; rfl, I0.out.fin⟩
  have d1 : decide (p < 1) = false := by simpa using g1
  by_cases g2 : 5 < p
  · have HX := Lib.hid (HN.out _ H2.out (by omega))
    have d2 : decide (5 < p) = true := by simpa using g2
    go_enter Tryd.func54, Tryd.ntmps54
    go_wp2
    go_ret
    exact ⟨by rw [HX.out]; rfl, I0.out.fin⟩
  have d2 : decide (5 < p) = false := by simpa using g2
  have HM := Lib.hid (show 1 ≤ p ∧ p ≤ 5 by omega)
  clear g1 g2
  go_enter Tryd.func54, Tryd.ntmps54
  go_wp2
  clear d1 d2 b0 b1
  go_loopw [3, 19] (fun y i wr => ∃ k : Nat, k ≤ n ∧ y = .int .i64 (bef es k) ∧ i = .int .i64 k ∧ Hid (GkTo p es k) ∧ Hid (InB w [.int .i64 p, .slice a n c] 25 wr)) (fun _ i _ => n - (intOf i).toNat)
  case atStart => exact ⟨0, by omega, rfl, rfl, Lib.hid ⟨fun j hj => by omega, fun j hj => by omega⟩, I0⟩
  case round =>
    obtain ⟨k, hk, rfl, rfl, hO, hI⟩ := hrel
    obtain ⟨wo, rfl⟩ : ∃ wo : World, wo = wr := ⟨_, rfl⟩
    clear I0
    have b0 := hI.out.box.cell 0
    simp at b0
    obtain ⟨y, hy⟩ : ∃ y, bef es k = y := ⟨_, rfl⟩
    have HYK := Lib.hid hy
    rw [hy]
    clear hy
    by_cases hlt : k < n
    · obtain ⟨G, rfl, hck⟩ := HC.out k hlt
      obtain ⟨x, hx⟩ : ∃ x, nth es k = x := ⟨_, rfl⟩
      have HXK := Lib.hid hx
      obtain ⟨x1, x2⟩ := HS.out k hlt
      rw [hx] at hck x1 x2
      have c1 := hck _ hI.out.fin
      obtain ⟨A, hA⟩ : ∃ A, x.tdiv 10 = A := ⟨_, rfl⟩
      obtain ⟨B, hB⟩ : ∃ B, x.tmod 10 = B := ⟨_, rfl⟩
      have t1 := ten_parts x
      have t2 := tmod_bd x 10 (by omega)
      rw [hA, hB] at t1
      rw [hB] at t2
      have HE := Lib.hid (show Ed p x ↔ (0 ≤ A ∧ A < B ∧ B < p) from by subst hA hB; exact ⟨fun h => ⟨h.a0, h.ab, h.bp⟩, fun h => ⟨h.1, h.2.1, h.2.2⟩⟩)
      have HQA := Lib.hid (show IntKind.wrap .i64 (x.tdiv 10) = A from by rw [hA]; exact IntWalk.i64_in _ (by omega))
      have HQB := Lib.hid hB
      have HT1 := Lib.hid t1
      have HT2 := Lib.hid t2
      have hlt1 : (k : Int) < (n : Int) := by omega
      clear hx hck t1 t2 hA hB x1 x2
      by_cases e1 : x ≤ y
      · have HX := Lib.hid (HN.out _ H4.out (fun h => by have := h k hlt; rw [HXK.out, HYK.out] at this; omega))
        have d1 : decide (x ≤ y) = true := by simpa using e1
        go_wp2_with fail
        refine (ends_any x A B _ HQA.out HQB.out).mono ?_
        rintro e w1 ⟨rfl, rfl⟩
        clear c1
        go_wp2
        go_ret
        exact ⟨by rw [HX.out]; rfl, hI.out.fin⟩
      have d1 : decide (x ≤ y) = false := by simpa using e1
      by_cases e2 : B ≤ A
      · have HX := Lib.hid (HN.out _ H3.out (fun h => by have := HE.out.1 (by have := h k hlt; rwa [HXK.out] at this); omega))
        have d2 : decide (B ≤ A) = true := by simpa using e2
        go_wp2_with fail
        refine (ends_any x A B _ HQA.out HQB.out).mono ?_
        rintro e w1 ⟨rfl, rfl⟩
        clear c1
        go_wp2
        go_ret
        exact ⟨by rw [HX.out]; rfl, hI.out.fin⟩
      have d2 : decide (B ≤ A) = false := by simpa using e2
      by_cases e3 : p ≤ B
      · have HX := Lib.hid (HN.out _ H3.out (fun h => by have := HE.out.1 (by have := h k hlt; rwa [HXK.out] at this); omega))
        have d3 : decide (p ≤ B) = true := by simpa using e3
        go_wp2_with fail
        refine (ends_any x A B _ HQA.out HQB.out).mono ?_
        rintro e w1 ⟨rfl, rfl⟩
        clear c1
        go_wp2
        go_ret
        exact ⟨by rw [HX.out]; rfl, hI.out.fin⟩
      have d3 : decide (p ≤ B) = false := by simpa using e3
      have HJ : Hid (0 ≤ y → GkTo p es (k + 1)) := Lib.hid fun y0 => ⟨fun j hj h1 => by
        by_cases e : j < k
        · exact hO.out.ed j e h1
        · obtain rfl : j = k := by omega
          rw [HXK.out]
          have := HT1.out
          have := HT2.out
          exact HE.out.2 (by omega), fun j hj => by
        by_cases e : j + 1 < k
        · exact hO.out.asc j e
        · obtain rfl : k = j + 1 := by omega
          have hy : nth es j = y := HYK.out
          rw [HXK.out, hy]; omega⟩
      have HY0 : Hid (0 ≤ y) := Lib.hid (by
        rw [← HYK.out]
        match k, hlt, hO with
        | 0, _, _ => exact Int.le_refl 0
        | j + 1, _, hO => have := (hO.out.ed j (by omega) HM.out.1).pos; show 0 ≤ nth es j; omega)
      have HG : Hid (GkTo p es (k + 1)) := Lib.hid (HJ.out HY0.out)
      clear HJ HY0 e1 e2 e3
      go_wp2_with fail
      refine (ends_any x A B _ HQA.out HQB.out).mono ?_
      rintro e w1 ⟨rfl, rfl⟩
      clear c1
      go_wp2
      go_roundw
      case rel => exact ⟨k + 1, by omega, by rw [show bef es (k + 1) = x from HXK.out], by go_num, HG, hI⟩
      case measure => simp [intOf]; omega
    · obtain rfl : k = n := by omega
      have HX := Lib.hid (HY.out HM.out.1 HM.out.2 hO.out)
      go_wp2
      go_ret
      exact ⟨by rw [HX.out]; rfl, hI.out.fin⟩
end Go.Proofs.YtimkmdedoacpfabDoor
