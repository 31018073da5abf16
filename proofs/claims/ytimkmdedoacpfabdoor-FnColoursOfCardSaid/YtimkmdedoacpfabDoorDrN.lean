/- Draws: DrawColoursOf, DrawBestCheat. -/
import Derived.Test.YtimkmdedoacpfabDoorDrI
namespace Go.Proofs.YtimkmdedoacpfabDoor
open Go.RowKit

set_option maxHeartbeats 3200000 in
theorem drawColoursOf_any (s : Value) (w : World) (h : CodeIn w s) : Calls Tryd.prog 25 #[s] w (GdPost w) := by
  have H := Lib.hid h; clear h
  obtain ⟨W0, hW0⟩ : ∃ W, W = w.alloc (.cells #[.int .i64 0, .slice none 0 0] 25) := ⟨_, rfl⟩
  have HC := Lib.hid (show CodeIn W0 s by rw [hW0]; exact code_more3 H.out _)
  have B0 := Lib.hid (show Box W0 w.heap.size [.int .i64 0, .slice none 0 0] by rw [hW0]; exact Box.made w _ _)
  have HZ0 := Lib.hid (show W0.heap.size = w.heap.size + 1 by rw [hW0]; simp)
  have HB0 := Lib.hid (show Below w.heap.size w W0 by rw [hW0]; exact below_grow _ _)
  go_enter Tryd.func25, Tryd.ntmps25
  go_wp2_with fail
  rw [← hW0]
  clear hW0 H
  refine (open_any _ _ HC.out).mono ?_
  rintro e w1 ⟨rfl, hr, hb⟩
  have HB := Lib.hid (Below.on HB0.out hb)
  have HS : Hid (w.heap.size < w1.heap.size) := Lib.hid (by have := hb.size; have := HZ0.out; omega)
  have BX := Lib.hid (B0.out.on hb)
  have D1 := Lib.hid (Dx.start hr)
  clear hr hb B0 HC HB0
  go_wp2_with fail
  refine (pick_any _ _ 5 _ D1.out.rd (by omega)).mono ?_
  rintro e w2 ⟨a, rfl, a0, a1, mma, hw⟩
  have a2 := a1 (by omega)
  have D2 := Lib.hid (D1.out.next hw)
  clear hw a1 D1
  obtain ⟨m, hm⟩ := Int.eq_ofNat_of_zero_le (show (0 : Int) ≤ 1 + a by omega)
  have m1 : 1 ≤ m := by omega
  have m5 : m ≤ 5 := by omega
  have HTv := Lib.hid (drgph_any _ _ m 9 w2 D2.out.rd (by omega) m1 m5 (by omega))
  go_wp2_with fail
  refine HTv.out.mono ?_
  rintro e w3 ⟨p, v, xs, k3, rfl, ow, hl, hs, hp, hk3, hg, hr⟩
  have D3 := Lib.hid (D2.out.made hg hr ow)
  have HX := Lib.hid (show xs.length ≤ 50 ∧ Sml xs from ⟨by omega, hs⟩)
  have hp0 : 0 ≤ p ∧ p ≤ 5 := by rcases hp with rfl | rfl <;> omega
  clear ow hg hr hl hs hp HTv D2
  have BX2 := Lib.hid (box_drawn3 BX.out D3.out.gr (by have := HZ0.out; omega))
  have HB2 := Lib.hid (show Below w.heap.size w w3 from HB.out.grown D3.out.gr (Nat.le_of_lt HS.out) (fun q e => by cases e; have := HZ0.out; omega))
  have z0 := BX2.out.cell 0; have z1 := BX2.out.cell 1; have f0 := BX2.out.frozen 0; have f1 := BX2.out.frozen 1
  simp at z0 z1
  have ho := own_li (own_box2 HS.out (D3.out.ls _ (.head _)) (.int .i64 p) v) HX.out.1 HX.out.2
  have hf := ((HB2.out).setCell (p := ⟨w.heap.size, 0, none⟩) (Nat.le_refl _) (.int .i64 p)).setCell (p := ⟨w.heap.size, 1, none⟩) (Nat.le_refl _) v
  obtain ⟨va, vc, hv⟩ := Own.form (D3.out.ls _ (.head _))
  dsimp only at hv
  subst hv
  clear hm D3
  go_wp2
  refine bodyPost_ret (v := .agg #[.int .i64 p, .slice va xs.length vc]) ?_ rfl ⟨p, _, xs, rfl, hp0.1, hp0.2, ho, hf⟩
  simp [results, Tryd.results25, go_sem, z0, z1]

/-- The full graph on four points. -/
def k4E : List Int := [1, 2, 3, 12, 13, 23]
theorem own_lit6 (w : World) (a b c d e f : Int) : Own (w.alloc (.cells #[.int .i64 a, .int .i64 b, .int .i64 c, .int .i64 d, .int .i64 e, .int .i64 f] 3)) w.heap.size (.slice (some ⟨w.heap.size, 0, none⟩) 6 6) [a, b, c, d, e, f] := World.ownsRow_lit (base := w.heap.size) (e := 3) (size := 1) w #[.int .i64 a, .int .i64 b, .int .i64 c, .int .i64 d, .int .i64 e, .int .i64 f] 6 (Nat.le_refl _) (by decide) rfl
theorem k4_sml : Sml [1, 2, 3, 12, 13, 23] := fun j hj => by
  match j, hj with
  | 0, _ => decide
  | 1, _ => decide
  | 2, _ => decide
  | 3, _ => decide
  | 4, _ => decide
  | 5, _ => decide
set_option maxHeartbeats 3200000 in
theorem drawBestCheat_any (s : Value) (w : World) (h : CodeIn w s) : Calls Tryd.prog 39 #[s] w (GdPost w) := by
  have H := Lib.hid h; clear h
  obtain ⟨W0, hW0⟩ : ∃ W, W = w.alloc (.cells #[.int .i64 0, .slice none 0 0] 25) := ⟨_, rfl⟩
  have HC := Lib.hid (show CodeIn W0 s by rw [hW0]; exact code_more3 H.out _)
  have B0 := Lib.hid (show Box W0 w.heap.size [.int .i64 0, .slice none 0 0] by rw [hW0]; exact Box.made w _ _)
  have HZ0 := Lib.hid (show W0.heap.size = w.heap.size + 1 by rw [hW0]; simp)
  have HB0 := Lib.hid (show Below w.heap.size w W0 by rw [hW0]; exact below_grow _ _)
  go_enter Tryd.func39, Tryd.ntmps39
  go_wp2_with fail
  rw [← hW0]
  clear hW0 H
  refine (open_any _ _ HC.out).mono ?_
  rintro e w1 ⟨rfl, hr, hb⟩
  have HB := Lib.hid (Below.on HB0.out hb)
  have HS : Hid (w.heap.size < w1.heap.size) := Lib.hid (by have := hb.size; have := HZ0.out; omega)
  have BX := Lib.hid (B0.out.on hb)
  have D1 := Lib.hid (Dx.start hr)
  clear hr hb B0 HC HB0
  go_wp2_with fail
  refine (pick_any _ _ 4 _ D1.out.rd (by omega)).mono ?_
  rintro e w9 ⟨b, rfl, b0, b1, mmb, hw⟩
  have D9 := Lib.hid (D1.out.next hw)
  clear hw b1 D1
  by_cases hb : b = 0
  · subst hb
    have BX2 := Lib.hid (box_drawn3 BX.out D9.out.gr (by have := HZ0.out; omega))
    have HB2 := Lib.hid (show Below w.heap.size w w9 from HB.out.grown D9.out.gr (Nat.le_of_lt HS.out) (fun q e => by cases e; have := HZ0.out; omega))
    have hs9 : w.heap.size < w9.heap.size := BX2.out.lt
    have z0 := BX2.out.cell 0; have z1 := BX2.out.cell 1; have f0 := BX2.out.frozen 0; have f1 := BX2.out.frozen 1
    simp at z0 z1
    have hsz : ((w9.setCell ⟨w.heap.size, 0, none⟩ (.int .i64 4)).setCell ⟨w.heap.size, 1, none⟩ (.slice (some ⟨w9.heap.size, 0, none⟩) 6 6)).heap.size = w9.heap.size := by simp
    have ol := own_lit6 ((w9.setCell ⟨w.heap.size, 0, none⟩ (.int .i64 4)).setCell ⟨w.heap.size, 1, none⟩ (.slice (some ⟨w9.heap.size, 0, none⟩) 6 6)) 1 2 3 12 13 23
    rw [hsz] at ol
    have ho := own_li ol (by decide) k4_sml
    have hf := (((HB2.out).setCell (p := ⟨w.heap.size, 0, none⟩) (Nat.le_refl _) (.int .i64 4)).setCell (p := ⟨w.heap.size, 1, none⟩) (Nat.le_refl _) (.slice (some ⟨w9.heap.size, 0, none⟩) 6 6)).alloc (by rw [hsz]; exact Nat.le_of_lt hs9) (.cells #[.int .i64 1, .int .i64 2, .int .i64 3, .int .i64 12, .int .i64 13, .int .i64 23] 3)
    have BX4 := (((BX2.out.set 0 (.int .i64 4)).set 1 (.slice (some ⟨w9.heap.size, 0, none⟩) 6 6)).alloc (.cells #[.int .i64 1, .int .i64 2, .int .i64 3, .int .i64 12, .int .i64 13, .int .i64 23] 3))
    have E0 := Lib.hid (BX4.cell 0)
    have E1 := Lib.hid (BX4.cell 1)
    clear D9 ol hsz BX4
    go_wp2
    refine bodyPost_ret (v := .agg #[.int .i64 4, .slice (some ⟨w9.heap.size, 0, none⟩) 6 6]) ?_ rfl ⟨4, _, _, rfl, by omega, by omega, ho, hf⟩
    have e0 := E0.out
    have e1 := E1.out
    clear E0 E1 z0 z1
    simp only [List.set_cons_zero, List.set_cons_succ, List.getElem?_cons_zero, List.getElem?_cons_succ] at e0 e1
    simp [results, Tryd.results39, go_sem, e0, e1]
  · have hd : (b == 0) = false := by simpa using hb
    go_wp2_with fail
    refine (pick_any _ _ 5 _ D9.out.rd (by omega)).mono ?_
    rintro e w2 ⟨a, rfl, a0, a1, mma, hw⟩
    have a2 := a1 (by omega)
    have D2 := Lib.hid (D9.out.next hw)
    clear hw a1 D9
    obtain ⟨m, hm⟩ := Int.eq_ofNat_of_zero_le (show (0 : Int) ≤ 1 + a by omega)
    have m1 : 1 ≤ m := by omega
    have m5 : m ≤ 5 := by omega
    have HTv := Lib.hid (drgph_any _ _ m 12 w2 D2.out.rd (by omega) m1 m5 (by omega))
    go_wp2_with fail
    refine HTv.out.mono ?_
    rintro e w3 ⟨p, v, xs, k3, rfl, ow, hl, hs, hp, hk3, hg, hr⟩
    have D3 := Lib.hid (D2.out.made hg hr ow)
    have HX := Lib.hid (show xs.length ≤ 50 ∧ Sml xs from ⟨by omega, hs⟩)
    have hp0 : 0 ≤ p ∧ p ≤ 5 := by rcases hp with rfl | rfl <;> omega
    clear ow hg hr hl hs hp HTv D2
    have BX2 := Lib.hid (box_drawn3 BX.out D3.out.gr (by have := HZ0.out; omega))
    have HB2 := Lib.hid (show Below w.heap.size w w3 from HB.out.grown D3.out.gr (Nat.le_of_lt HS.out) (fun q e => by cases e; have := HZ0.out; omega))
    have z0 := BX2.out.cell 0; have z1 := BX2.out.cell 1; have f0 := BX2.out.frozen 0; have f1 := BX2.out.frozen 1
    simp at z0 z1
    have ho := own_li (own_box2 HS.out (D3.out.ls _ (.head _)) (.int .i64 p) v) HX.out.1 HX.out.2
    have hf := ((HB2.out).setCell (p := ⟨w.heap.size, 0, none⟩) (Nat.le_refl _) (.int .i64 p)).setCell (p := ⟨w.heap.size, 1, none⟩) (Nat.le_refl _) v
    obtain ⟨va, vc, hv⟩ := Own.form (D3.out.ls _ (.head _))
    dsimp only at hv
    subst hv
    clear hm D3
    go_wp2
    refine bodyPost_ret (v := .agg #[.int .i64 p, .slice va xs.length vc]) ?_ rfl ⟨p, _, xs, rfl, hp0.1, hp0.2, ho, hf⟩
    simp [results, Tryd.results39, go_sem, z0, z1]
end Go.Proofs.YtimkmdedoacpfabDoor
