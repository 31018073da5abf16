/- Draws: DrawOrderOk, DrawOrderBack, DrawOrderThen, DrawGraphOk, DrawGraphMoved. -/
import Derived.Test.YtimkmdedoacpfabDoorDrH
namespace Go.Proofs.YtimkmdedoacpfabDoor
open Go.RowKit

/-- A list as the laws have it. -/
structure Li (w : World) (v : Value) (xs : List Int) : Prop where
  ints : Ints w v xs
  cap : capB v
  few : xs.length ≤ 50
  sml : Sml xs
theorem Li.below {w w' : World} {v : Value} {xs : List Int} (h : Li w v xs) (hb : Below w.heap.size w w') : Li w' v xs := ⟨h.ints.below hb, h.cap, h.few, h.sml⟩
theorem Li.num {w : World} {v : Value} {xs : List Int} (h : Li w v xs) : ∀ j, j < xs.length → intIn (nth xs j) := fun j hj => by have := h.sml j hj; exact ⟨by omega, by omega⟩
theorem own_li {w : World} {B : Nat} {v : Value} {xs : List Int} (h : Own w B v xs) (hl : xs.length ≤ 50) (hs : Sml xs) : Li w v xs :=
  ⟨Ints.of_own h (by unfold maxLen; omega), h.capped, hl, hs⟩
theorem Dx.fin {w w1 w' : World} {Bs : List (Nat × List Value)} {L : List (Value × List Int)} {k : Nat} (D : Dx w1 w.heap.size Bs L k w') (hb : Below w.heap.size w w1) (hs : w.heap.size ≤ w1.heap.size) : Below w.heap.size w w' :=
  hb.grown D.gr hs (fun q e => by cases e; exact Nat.le_refl _)
theorem small_sml {xs : List Int} (h : ∀ j, j < xs.length → 0 ≤ nth xs j ∧ nth xs j ≤ 10) : Sml xs := fun j hj => by have := h j hj; omega

theorem code_more3 {w : World} {s : Value} (h : CodeIn w s) (o : Obj) : CodeIn (w.alloc o) s := by
  rcases h with ⟨a, cap, rfl⟩ | ⟨b, off, len, cap, z, rfl, h1, h2, h3, h4, h5, h6⟩
  · exact .inl ⟨a, cap, rfl⟩
  · exact .inr ⟨b, off, len, cap, z, rfl, h1, h2, h3, by simp; omega, fun j hj => ((below_grow w o).cell (p := ⟨b, off + j, none⟩) h4).trans (h5 j hj), h6⟩
theorem box_drawn3 {w w' : World} {R N : Nat} {P : List Value} (h : Box w N P) (hg : w.grownBy w' (some R)) (hN : N ≠ R) : Box w' N P := by
  obtain ⟨T, hT⟩ := h
  exact ⟨T, by rw [hg.block N (Array.getElem?_eq_some_iff.1 hT).1 fun e => hN (Option.some.inj e)]; exact hT⟩
/-- A list behind a box: the box written to leaves it. -/
theorem own_box2 {w : World} {N B : Nat} {v : Value} {xs : List Int} (hN : N < B) (h : Own w B v xs) (a b : Value) : Own ((w.setCell ⟨N, 0, none⟩ a).setCell ⟨N, 1, none⟩ b) B v xs :=
  own_heap h fun q hq => by
    have := (h.lt q hq).1
    rw [Below.heap_setCell _ _ _ _ (show q ≠ N by omega), Below.heap_setCell _ _ _ _ (show q ≠ N by omega)]

def OoPost (w : World) (e : Ending) (w' : World) : Prop := ∃ v xs n, e = .returned (.tuple #[v, .int .i64 n]) ∧ Li w' v xs ∧ 1 ≤ n ∧ n ≤ 6 ∧ Below w.heap.size w w'
def ObPost (w : World) (e : Ending) (w' : World) : Prop := ∃ v xs, e = .returned v ∧ Li w' v xs ∧ Below w.heap.size w w'
def OtPost (w : World) (e : Ending) (w' : World) : Prop := ∃ v xs u ys, e = .returned (.tuple #[v, u]) ∧ Li w' v xs ∧ Li w' u ys ∧ Below w.heap.size w w'
def GdPost (w : World) (e : Ending) (w' : World) : Prop := ∃ p v es, e = .returned (.agg #[.int .i64 p, v]) ∧ 0 ≤ p ∧ p ≤ 5 ∧ Li w' v es ∧ Below w.heap.size w w'
def GmPost (w : World) (e : Ending) (w' : World) : Prop := ∃ p v es u ys, e = .returned (.tuple #[.agg #[.int .i64 p, v], u]) ∧ 0 ≤ p ∧ p ≤ 5 ∧ Li w' v es ∧ Li w' u ys ∧ Below w.heap.size w w'

set_option maxHeartbeats 1600000 in
theorem drawOrderOk_any (s : Value) (w : World) (h : CodeIn w s) : Calls Tryd.prog 50 #[s] w (OoPost w) := by
  have H := Lib.hid h; clear h
  go_enter Tryd.func50, Tryd.ntmps50
  go_wp2_with fail
  refine (open_any _ _ H.out).mono ?_
  rintro e w1 ⟨rfl, hr, hb⟩
  have HB := Lib.hid hb
  have HS : Hid (w.heap.size ≤ w1.heap.size) := Lib.hid hb.size
  have D1 := Lib.hid (Dx.start hr)
  clear hr hb
  go_wp2_with fail
  refine (pick_any _ _ 5 _ D1.out.rd (by omega)).mono ?_
  rintro e w2 ⟨a, rfl, a0, a1, mma, hw⟩
  have a2 := a1 (by omega)
  have D2 := Lib.hid (D1.out.next hw)
  clear hw a1 D1
  obtain ⟨m, hm⟩ := Int.eq_ofNat_of_zero_le (show (0 : Int) ≤ 1 + a by omega)
  have m1 : 1 ≤ m := by omega
  have m5 : m ≤ 5 := by omega
  have HTv := Lib.hid (drord_any _ _ m 4 w2 D2.out.rd (by omega) m1 m5 (by omega))
  go_wp2_with fail
  refine HTv.out.mono ?_
  rintro e w3 ⟨v, xs, k3, rfl, ow, hl, hs, _, hk3, hg, hr⟩
  have D3 := Lib.hid (D2.out.made hg hr ow)
  have HX := Lib.hid (show xs.length ≤ 50 ∧ Sml xs from ⟨by omega, small_sml hs⟩)
  clear ow hg hr hl hs HTv D2
  go_wp2_with fail
  refine (pick_any _ _ 20 _ D3.out.rd (by omega)).mono ?_
  rintro e w4 ⟨b, rfl, b0, b1, mmb, hw⟩
  have b2 := b1 (by omega)
  have D4 := Lib.hid (D3.out.next hw)
  clear hw b1 D3
  have a3 : 1 ≤ (m : Int) ∧ (m : Int) ≤ 5 := by omega
  have ho := own_li (D4.out.ls _ (.head _)) HX.out.1 HX.out.2
  have hf := D4.out.fin HB.out HS.out
  clear hm D4
  by_cases hb : b = 19
  · subst hb
    go_wp2
    go_ret2
    exact ⟨v, xs, _, rfl, ho, by omega, by omega, hf⟩
  · have hq : b.tdiv 19 = 0 := Int.tdiv_eq_zero_of_lt b0 (by omega)
    go_wp2
    go_ret2
    exact ⟨v, xs, m, rfl, ho, by omega, by omega, hf⟩

set_option maxHeartbeats 1600000 in
theorem drawOrderBack_any (s : Value) (w : World) (h : CodeIn w s) : Calls Tryd.prog 55 #[s] w (ObPost w) := by
  have H := Lib.hid h; clear h
  go_enter Tryd.func55, Tryd.ntmps55
  go_wp2_with fail
  refine (open_any _ _ H.out).mono ?_
  rintro e w1 ⟨rfl, hr, hb⟩
  have HB := Lib.hid hb
  have HS : Hid (w.heap.size ≤ w1.heap.size) := Lib.hid hb.size
  have D1 := Lib.hid (Dx.start hr)
  clear hr hb
  go_wp2_with fail
  refine (pick_any _ _ 5 _ D1.out.rd (by omega)).mono ?_
  rintro e w2 ⟨a, rfl, a0, a1, mma, hw⟩
  have a2 := a1 (by omega)
  have D2 := Lib.hid (D1.out.next hw)
  clear hw a1 D1
  obtain ⟨m, hm⟩ := Int.eq_ofNat_of_zero_le (show (0 : Int) ≤ 1 + a by omega)
  have m1 : 1 ≤ m := by omega
  have m5 : m ≤ 5 := by omega
  have HTv := Lib.hid (drord_any _ _ m 6 w2 D2.out.rd (by omega) m1 m5 (by omega))
  go_wp2_with fail
  refine HTv.out.mono ?_
  rintro e w3 ⟨v, xs, k3, rfl, ow, hl, hs, _, hk3, hg, hr⟩
  have D3 := Lib.hid (D2.out.made hg hr ow)
  have HX := Lib.hid (show xs.length ≤ 50 ∧ Sml xs from ⟨by omega, small_sml hs⟩)
  clear ow hg hr hl hs HTv D2
  have ho := own_li (D3.out.ls _ (.head _)) HX.out.1 HX.out.2
  have hf := D3.out.fin HB.out HS.out
  clear hm D3
  go_wp2
  go_ret
  exact ⟨v, xs, rfl, ho, hf⟩

set_option maxHeartbeats 3200000 in
theorem drawGraphOk_any (s : Value) (w : World) (h : CodeIn w s) : Calls Tryd.prog 53 #[s] w (GdPost w) := by
  have H := Lib.hid h; clear h
  obtain ⟨W0, hW0⟩ : ∃ W, W = w.alloc (.cells #[.int .i64 0, .slice none 0 0] 25) := ⟨_, rfl⟩
  have HC := Lib.hid (show CodeIn W0 s by rw [hW0]; exact code_more3 H.out _)
  have B0 := Lib.hid (show Box W0 w.heap.size [.int .i64 0, .slice none 0 0] by rw [hW0]; exact Box.made w _ _)
  have HZ0 := Lib.hid (show W0.heap.size = w.heap.size + 1 by rw [hW0]; simp)
  have HB0 := Lib.hid (show Below w.heap.size w W0 by rw [hW0]; exact below_grow _ _)
  go_enter Tryd.func53, Tryd.ntmps53
  go_wp2_with fail
  rw [← hW0]
  clear hW0 H
  refine (open_any _ _ HC.out).mono ?_
  rintro e w1 ⟨rfl, hr, hb⟩
  have HB := Lib.hid (Below.on HB0.out hb)
  have HS : Hid (w.heap.size < w1.heap.size) := Lib.hid (by have := hb.size; have := HZ0.out; omega)
  have BX := Lib.hid (B0.out.on hb)
  have D1 := Lib.hid (Dx.start hr)
  clear hr hb B0 HC HB0
  go_wp2_with fail
  refine (pick_any _ _ 5 _ D1.out.rd (by omega)).mono ?_
  rintro e w2 ⟨a, rfl, a0, a1, mma, hw⟩
  have a2 := a1 (by omega)
  have D2 := Lib.hid (D1.out.next hw)
  clear hw a1 D1
  obtain ⟨m, hm⟩ := Int.eq_ofNat_of_zero_le (show (0 : Int) ≤ 1 + a by omega)
  have m1 : 1 ≤ m := by omega
  have m5 : m ≤ 5 := by omega
  have HTv := Lib.hid (drgph_any _ _ m 2 w2 D2.out.rd (by omega) m1 m5 (by omega))
  go_wp2_with fail
  refine HTv.out.mono ?_
  rintro e w3 ⟨p, v, xs, k3, rfl, ow, hl, hs, hp, hk3, hg, hr⟩
  have D3 := Lib.hid (D2.out.made hg hr ow)
  have HX := Lib.hid (show xs.length ≤ 50 ∧ Sml xs from ⟨by omega, hs⟩)
  have hp0 : 0 ≤ p ∧ p ≤ 5 := by rcases hp with rfl | rfl <;> omega
  clear ow hg hr hl hs hp HTv D2
  have BX2 := Lib.hid (box_drawn3 BX.out D3.out.gr (by have := HZ0.out; omega))
  have HB2 := Lib.hid (show Below w.heap.size w w3 from HB.out.grown D3.out.gr (Nat.le_of_lt HS.out) (fun q e => by cases e; have := HZ0.out; omega))
  have z0 := BX2.out.cell 0; have z1 := BX2.out.cell 1; have f0 := BX2.out.frozen 0; have f1 := BX2.out.frozen 1
  simp at z0 z1
  have ho := own_li (own_box2 HS.out (D3.out.ls _ (.head _)) (.int .i64 p) v) HX.out.1 HX.out.2
  have hf := ((HB2.out).setCell (p := ⟨w.heap.size, 0, none⟩) (Nat.le_refl _) (.int .i64 p)).setCell (p := ⟨w.heap.size, 1, none⟩) (Nat.le_refl _) v
  obtain ⟨va, vc, hv⟩ := Own.form (D3.out.ls _ (.head _))
  dsimp only at hv
  subst hv
  clear hm D3
  go_wp2
  refine bodyPost_ret (v := .agg #[.int .i64 p, .slice va xs.length vc]) ?_ rfl ⟨p, _, xs, rfl, hp0.1, hp0.2, ho, hf⟩
  simp [results, Tryd.results53, go_sem, z0, z1]

end Go.Proofs.YtimkmdedoacpfabDoor
