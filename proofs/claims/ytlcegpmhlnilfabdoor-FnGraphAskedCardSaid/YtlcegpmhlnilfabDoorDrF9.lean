/- Draws of chapter 9: l20Four, DrawGraphAsker. -/
import Derived.Test.YtlcegpmhlnilfabDoorDrA
namespace Go.Proofs.YtlcegpmhlnilfabDoor
open Go.RowKit

theorem own_lit4 (w : World) (a b c d : Int) : Own (w.alloc (.cells #[.int .i64 a, .int .i64 b, .int .i64 c, .int .i64 d] 3)) w.heap.size (.slice (some ⟨w.heap.size, 0, none⟩) 4 4) [a, b, c, d] :=
  World.ownsRow_lit (base := w.heap.size) (e := 3) (size := 1) w #[.int .i64 a, .int .i64 b, .int .i64 c, .int .i64 d] 4 (Nat.le_refl _) (by decide) rfl
theorem own_three {w : World} {B g : Nat} {a b c d : Int} (h : Own w B (.slice (some ⟨g, 0, none⟩) 4 4) [a, b, c, d]) : Own w B (.slice (some ⟨g, 0, none⟩) 3 4) [a, b, c] := by
  obtain ⟨_, h2⟩ := h
  rcases h2 with ⟨e, _⟩ | ⟨g', cap, cur, e, hg, hb, hn, hm, hs, ht⟩
  · cases e
  · injection e with e1 e2 e3
    injection e1 with e4
    injection e4 with e5 _ _
    subst e3 e5
    refine ⟨rfl, .inr ⟨_, 4, cur, rfl, hg, hb, (by show 3 ≤ 4; omega), hm, hs, ?_⟩⟩
    have : cur.toList.take (3 * 1) = (cur.toList.take (4 * 1)).take 3 := by rw [List.take_take]; rfl
    show cur.toList.take (3 * 1) = _
    rw [this]
    have ht' : cur.toList.take (4 * 1) = [a, b, c, d].map (Value.int .i64) := ht
    rw [ht']; rfl
def FourPost (R k : Nat) (w : World) (e : Ending) (w' : World) : Prop := ∃ v l k', e = .returned v ∧ l.length ≤ 4 ∧ k' ≤ k + 6 ∧ w.grownBy w' (some R) ∧ Rd w' R k' ∧ Own w' w.heap.size v l

set_option maxRecDepth 20000 in
set_option maxHeartbeats 1600000 in
theorem drfour_any (R k : Nat) (nn : Int) (w : World) (h : Rd w R k) (hk : k ≤ 10000) (hn1 : 1 ≤ nn) (hn2 : nn ≤ 1000) : Calls Tryd.prog 94 #[.pointer (some ⟨R, 0, none⟩), .int .i64 nn] w (FourPost R k w) := by
  have HRL := Lib.hid h.lt
  have P0 : Hid (Rd w R k ∧ w.grownBy w (some R)) := Lib.hid ⟨h, grown_refl w R⟩
  clear h
  go_enter Tryd.func94, Tryd.ntmps94
  go_wp2_with fail
  refine (pick_any R (k) 2 _ P0.out.1 (by omega)).mono ?_
  rintro e w1 ⟨a1, rfl, _, _, mm, hw⟩
  have P1 : Hid (Rd w1 R (k + 1) ∧ w.grownBy w1 (some R)) := Lib.hid (by rw [hw]; exact ⟨P0.out.1.next mm, grown_trans P0.out.2 (grown_pick _ R (k) mm)⟩)
  clear hw mm P0
  go_wp2_with fail
  refine (pick_any R (k + 1) 2 _ P1.out.1 (by omega)).mono ?_
  rintro e w2 ⟨a2, rfl, _, _, mm, hw⟩
  have P2 : Hid (Rd w2 R (k + 1 + 1) ∧ w.grownBy w2 (some R)) := Lib.hid (by rw [hw]; exact ⟨P1.out.1.next mm, grown_trans P1.out.2 (grown_pick _ R (k + 1) mm)⟩)
  clear hw mm P1
  go_wp2_with fail
  refine (pick_any R (k + 1 + 1) 2 _ P2.out.1 (by omega)).mono ?_
  rintro e w3 ⟨a3, rfl, _, _, mm, hw⟩
  have P3 : Hid (Rd w3 R (k + 1 + 1 + 1) ∧ w.grownBy w3 (some R)) := Lib.hid (by rw [hw]; exact ⟨P2.out.1.next mm, grown_trans P2.out.2 (grown_pick _ R (k + 1 + 1) mm)⟩)
  clear hw mm P2
  go_wp2_with fail
  refine (pick_any R (k + 1 + 1 + 1) 2 _ P3.out.1 (by omega)).mono ?_
  rintro e w4 ⟨a4, rfl, _, _, mm, hw⟩
  have P4 : Hid (Rd w4 R (k + 1 + 1 + 1 + 1) ∧ w.grownBy w4 (some R)) := Lib.hid (by rw [hw]; exact ⟨P3.out.1.next mm, grown_trans P3.out.2 (grown_pick _ R (k + 1 + 1 + 1) mm)⟩)
  clear hw mm P3
  obtain ⟨W5, hW5⟩ : ∃ W5, W5 = w4.alloc (.cells #[.int .i64 a1, .int .i64 a2, .int .i64 a3, .int .i64 a4] 3) := ⟨_, rfl⟩
  have K5 := Lib.hid (show Ak w R W5 (k + 1 + 1 + 1 + 1) (.slice (some ⟨w4.heap.size, 0, none⟩) 4 4) [a1, a2, a3, a4] by
    rw [hW5]
    exact ⟨P4.out.1.below (below_grow _ _), grown_trans P4.out.2 (grown_below R (below_grow _ _)), own_mono (own_lit4 w4 a1 a2 a3 a4) P4.out.2.size, HRL.out⟩)
  have HW := Lib.hid hW5
  clear hW5 P4
  go_wp2_with fail
  rw [← HW.out]
  refine (odd_any R _ nn _ K5.out.rd (by omega) hn1 (by omega)).mono ?_
  rintro e w6 ⟨b, rfl, mm, hw6⟩
  have hgp := grown_pick W5 R (k + 1 + 1 + 1 + 1) mm
  have hrn := K5.out.rd.next mm
  rw [← hw6] at hgp hrn
  have K6 := Lib.hid (K5.out.draw hgp hrn)
  clear hw6 hgp hrn K5
  cases b
  · go_wp2
    go_ret
    exact ⟨_, [a1, a2, a3, a4], _, rfl, by simp, by omega, K6.out.gr, K6.out.rd, K6.out.ow⟩
  · go_wp2_with fail
    refine (pick_any R _ 2 _ K6.out.rd (by omega)).mono ?_
    rintro e w7 ⟨b, rfl, b0, b1, mm, hw7⟩
    have b2 := b1 (by omega)
    have hgp := grown_pick w6 R (k + 1 + 1 + 1 + 1 + 1) mm
    have hrn := K6.out.rd.next mm
    rw [← hw7] at hgp hrn
    have K7 := Lib.hid (K6.out.draw hgp hrn)
    clear hw7 hgp hrn b1 K6
    obtain rfl | rfl : b = 0 ∨ b = 1 := by omega
    · go_wp2
      go_ret
      exact ⟨_, [a1, a2, a3], _, rfl, by simp, by omega, K7.out.gr, K7.out.rd, own_three K7.out.ow⟩
    · obtain ⟨⟨f0, c0⟩, o8, g8⟩ := K7.out.ow.set (n := 4) (cap := 4) rfl (show 0 < 4 by omega) 2
      have K8 := Lib.hid (K7.out.app o8 g8)
      clear o8 g8
      go_wp2
      go_ret
      exact ⟨_, _, _, rfl, by simp, by omega, K8.out.gr, K8.out.rd, K8.out.ow⟩

theorem drawGraphAsker_any (s : Value) (w : World) (h : CodeIn w s) : Calls Tryd.prog 38 #[s] w fun e w' => ∃ (av : Value) (l : List Int), e = .returned av ∧ l.length ≤ 4 ∧ Ints w' av l ∧ Below w.heap.size w w' := by
  have H := Lib.hid h; clear h
  go_enter Tryd.func38, Tryd.ntmps38
  go_wp2_with fail
  refine (open_any _ _ H.out).mono ?_
  rintro e w1 ⟨rfl, H1, hb1⟩
  have RD := Lib.hid H1
  have B1 := Lib.hid hb1
  clear H1 hb1
  go_wp2_with fail
  refine (drfour_any _ _ 2 _ RD.out (by omega) (by omega) (by omega)).mono ?_
  rintro e w2 ⟨v, l, k2, rfl, hl, hk2, hg, hr, ho⟩
  have HI := Lib.hid (Ints.of_own ho (by unfold maxLen; omega))
  have HB := Lib.hid (below_of_grown B1.out hg B1.out.size (by omega))
  clear hg hr ho
  go_wp2
  go_ret
  exact ⟨v, l, rfl, hl, HI.out, HB.out⟩
end Go.Proofs.YtlcegpmhlnilfabDoor
