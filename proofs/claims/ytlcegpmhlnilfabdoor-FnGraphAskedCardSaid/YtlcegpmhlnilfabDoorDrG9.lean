/- Draws of chapter 9: DrawGraphAsked. -/
import Derived.Test.YtlcegpmhlnilfabDoorDrF9
import Derived.Test.YtlcegpmhlnilfabDoorDrI
namespace Go.Proofs.YtlcegpmhlnilfabDoor
open Go.RowKit

def GaPost (w : World) (e : Ending) (w' : World) : Prop := ∃ av l p v es, e = .returned (.tuple #[av, .agg #[.int .i64 p, v]]) ∧ 0 ≤ p ∧ p ≤ 5 ∧ Ints w' av l ∧ Li w' v es ∧ Below w.heap.size w w'
set_option maxRecDepth 20000 in
set_option maxHeartbeats 3200000 in
theorem drawGraphAsked_any (s : Value) (w : World) (h : CodeIn w s) : Calls Tryd.prog 41 #[s] w (GaPost w) := by
  have H := Lib.hid h; clear h
  obtain ⟨W0, hW0⟩ : ∃ W, W = w.alloc (.cells #[.int .i64 0, .slice none 0 0] 25) := ⟨_, rfl⟩
  have HC := Lib.hid (show CodeIn W0 s by rw [hW0]; exact code_more3 H.out _)
  have B0 := Lib.hid (show Box W0 w.heap.size [.int .i64 0, .slice none 0 0] by rw [hW0]; exact Box.made w _ _)
  have HZ0 := Lib.hid (show W0.heap.size = w.heap.size + 1 by rw [hW0]; simp)
  have HB0 := Lib.hid (show Below w.heap.size w W0 by rw [hW0]; exact below_grow _ _)
  go_enter Tryd.func41, Tryd.ntmps41
  go_wp2_with fail
  rw [← hW0]
  clear hW0 H
  refine (open_any _ _ HC.out).mono ?_
  rintro e w1 ⟨rfl, hr, hb⟩
  have HB := Lib.hid (Below.on HB0.out hb)
  have HS : Hid (w.heap.size < w1.heap.size) := Lib.hid (by have := hb.size; have := HZ0.out; omega)
  have BX := Lib.hid (B0.out.on hb)
  have D1 := Lib.hid (Dx.start hr)
  clear hr hb B0 HC HB0
  go_wp2_with fail
  refine (drfour_any _ _ 12 _ D1.out.rd (by omega) (by omega) (by omega)).mono ?_
  rintro e w5 ⟨lv, l, k5, rfl, hll, hk5, hg, hr, ow⟩
  have D5 := Lib.hid (D1.out.made hg hr ow)
  have HLL := Lib.hid hll
  clear hg hr ow hll D1
  go_wp2_with fail
  refine (pick_any _ _ 5 _ D5.out.rd (by omega)).mono ?_
  rintro e w2 ⟨a, rfl, a0, a1, mma, hw⟩
  have a2 := a1 (by omega)
  have D2 := Lib.hid (D5.out.next hw)
  clear hw a1 D5
  obtain ⟨m, hm⟩ := Int.eq_ofNat_of_zero_le (show (0 : Int) ≤ 1 + a by omega)
  have m1 : 1 ≤ m := by omega
  have m5 : m ≤ 5 := by omega
  have HTv := Lib.hid (drgph_any _ _ m 12 w2 D2.out.rd (by omega) m1 m5 (by omega))
  go_wp2_with fail
  refine HTv.out.mono ?_
  rintro e w3 ⟨p, v, xs, k3, rfl, ow, hl, hs, hp, hk3, hg, hr⟩
  have D3 := Lib.hid (D2.out.made hg hr ow)
  have HX := Lib.hid (show xs.length ≤ 50 ∧ Sml xs from ⟨by omega, hs⟩)
  have hp0 : 0 ≤ p ∧ p ≤ 5 := by rcases hp with rfl | rfl <;> omega
  clear ow hg hr hl hs hp HTv D2
  have BX2 := Lib.hid (box_drawn3 BX.out D3.out.gr (by have := HZ0.out; omega))
  have HB2 := Lib.hid (show Below w.heap.size w w3 from HB.out.grown D3.out.gr (Nat.le_of_lt HS.out) (fun q e => by cases e; have := HZ0.out; omega))
  have z0 := BX2.out.cell 0; have z1 := BX2.out.cell 1; have f0 := BX2.out.frozen 0; have f1 := BX2.out.frozen 1
  simp at z0 z1
  have ho := own_li (own_box2 HS.out (D3.out.ls _ (.head _)) (.int .i64 p) v) HX.out.1 HX.out.2
  have hq := Ints.of_own (own_box2 HS.out (D3.out.ls _ (.tail _ (.head _))) (.int .i64 p) v) (by have := HLL.out; show l.length ≤ maxLen; unfold maxLen; omega)
  have hf := ((HB2.out).setCell (p := ⟨w.heap.size, 0, none⟩) (Nat.le_refl _) (.int .i64 p)).setCell (p := ⟨w.heap.size, 1, none⟩) (Nat.le_refl _) v
  have BX4 := ((BX2.out.set 0 (.int .i64 p)).set 1 v)
  have E0 := Lib.hid (BX4.cell 0)
  have E1 := Lib.hid (BX4.cell 1)
  obtain ⟨va, vc, hv⟩ := Own.form (D3.out.ls _ (.head _))
  dsimp only at hv
  subst hv
  clear hm D3 BX4
  go_wp2
  refine bodyPost_ret (v := .tuple #[lv, .agg #[.int .i64 p, .slice va xs.length vc]]) ?_ rfl ⟨lv, l, p, _, xs, rfl, hp0.1, hp0.2, hq, ho, hf⟩
  have e0 := E0.out
  have e1 := E1.out
  clear E0 E1 z0 z1
  simp only [List.set_cons_zero, List.set_cons_succ, List.getElem?_cons_zero, List.getElem?_cons_succ] at e0 e1
  simp [results, Tryd.results41, go_sem, e0, e1]
end Go.Proofs.YtlcegpmhlnilfabDoor
