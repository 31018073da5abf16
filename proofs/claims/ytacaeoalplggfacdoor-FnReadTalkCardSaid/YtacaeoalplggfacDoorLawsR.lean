/- The law of ReadTalk, walked. -/
import Derived.Test.YtacaeoalplggfacDoorLawsA
import Derived.Test.YtacaeoalplggfacDoorReadV
import Derived.Test.YtacaeoalplggfacDoorDrawR
namespace Go.Proofs.YtacaeoalplggfacDoor
open Go.RowKit

theorem Box.below {w w' : World} {N : Nat} {s a t : Int} (h : Box w N s a t) (hb : Below w.heap.size w w') : Box w' N s a t := (hb.block N h.lt).trans h
theorem digits_some (n : Nat) (h : n < 100) : ∃ l c, Lib.decDigits n = l ++ [c] ∧ c ≠ 44 := by
  by_cases h1 : n < 10
  · exact ⟨[], _, Lib.decDigits_one h1, digit_ne n (List.mem_range.2 h1)⟩
  · exact ⟨[UInt8.ofNat (48 + n / 10)], _, Lib.decDigits_two h1 h, digit_ne _ (List.mem_range.2 (by omega))⟩
/-- With a comma behind it a text is that of no talk. -/
theorem comma_none (g : Int) (s : ByteArray) : ¬ Valid g (s ++ ⟨#[44]⟩) := by
  rintro ⟨x, y, z, hx, he⟩
  obtain ⟨a, b, c, rfl, rfl, rfl, ha, hb, hc, h⟩ := valid_nat hx
  rw [h] at he
  obtain ⟨l, d, hd, hne⟩ := digits_some c hc
  have e := congrArg (fun t : ByteArray => t.data.toList.getLast?) he
  simp only [txt_list, hd] at e
  rw [show Lib.decDigits a ++ 44 :: (Lib.decDigits b ++ 44 :: (l ++ [d])) = (Lib.decDigits a ++ 44 :: (Lib.decDigits b ++ 44 :: l)) ++ [d] by simp, List.getLast?_concat] at e
  have e2 : (s ++ (⟨#[44]⟩ : ByteArray)).data.toList = s.data.toList ++ [44] := by simp [ByteArray.data_append]
  rw [e2, List.getLast?_concat] at e
  exact hne (Option.some.inj e)
theorem text_size8 {g x y z : Int} (hx : l2B g x y z = true) : (textOf g x y z).size ≤ 8 := by
  obtain ⟨a, b, c, rfl, rfl, rfl, ha, hb, hc, h⟩ := valid_nat hx
  rw [h]; exact (txt_size ha hb hc).1

set_option maxRecDepth 20000 in
set_option maxHeartbeats 1600000 in
theorem lReadTalk_walk (s : Value) (w : World) (h : CodeIn w s) (G : Gr w) (E : Er w) : Calls Tryd.prog 4 #[s] w fun e w' => e = .returned (.bool true) ∧ Below w.heap.size w w' := by
  obtain ⟨a0, len0, cap0, rfl⟩ := h.slice
  have H := Lib.hid h; clear h
  have G0 := Lib.hid G; clear G
  have HEr := Lib.hid E; clear E
  have B0 := Lib.hid (Below.refl w.heap.size w)
  by_cases hl : 1048576 < len0
  · go_enter Tryd.func4, Tryd.ntmps4
    go_wp2
    go_ret
    exact ⟨rfl, Below.refl _ _⟩
  go_enter Tryd.func4, Tryd.ntmps4
  go_wp2_with fail
  refine (drawReadTalk_any _ _ H.out).mono ?_
  rintro e w1 ⟨g, s, rfl, ls, hb⟩
  have B1 := Lib.hid hb
  have G1 := Lib.hid (G0.out.on hb)
  clear hb
  by_cases hv : Valid g s
  · obtain ⟨x, y, z, hx, rfl⟩ := hv
    have hc0 := Lib.hid (comma_none g (textOf g x y z))
    have hz := text_size8 hx
    have hcs : (⟨#[44]⟩ : ByteArray).size = 1 := rfl
    have hsz : (textOf g x y z ++ (⟨#[44]⟩ : ByteArray)).size ≤ 1048577 := by rw [ByteArray.size_append]; omega
    have hee : ((textOf g x y z).toList == (textOf g x y z).toList) = true := beq_self_eq_true _
    have tg := talkGuard
    have te := run_equal_talk
    have tr := talkB_refl x y z
    go_wp2_with fail
    refine (iread_text _ _ _ _ hx _ G1.out).mono ?_
    rintro e w2 ⟨rfl, hb⟩
    have B2 := Lib.hid (B1.out.trans (hb.mono B1.out.size))
    have G2 := Lib.hid (G1.out.on hb)
    clear hb
    go_wp2_with fail
    obtain ⟨w3, hw⟩ : ∃ wz, wz = w2.alloc (.cells #[.int .i64 (x), .int .i64 (y), .int .i64 (z)] 24) := ⟨_, rfl⟩
    have hb : Below w2.heap.size w2 w3 := by rw [hw]; exact below_alloc _ _
    have X3 : Hid (Box w3 w2.heap.size (x) (y) (z)) := Lib.hid (by rw [hw]; exact Box.new _ _ _ _)
    have B3 := Lib.hid (B2.out.trans (hb.mono B2.out.size))
    have G3 := Lib.hid (G2.out.on hb)
    rw [← hw]
    clear hb hw
    go_wp2_with fail
    refine (sread_val _ _ _ _ hx _).mono ?_
    rintro e w4 ⟨rfl, hb⟩
    have X4 := Lib.hid (X3.out.below hb)
    have B4 := Lib.hid (B3.out.trans (hb.mono B3.out.size))
    have G4 := Lib.hid (G3.out.on hb)
    clear hb
    obtain ⟨⟨c0, c1, c2⟩, _⟩ := Box.cells X4.out
    have hlx := X4.out.lt
    go_wp2_with fail
    obtain ⟨w5, hw⟩ : ∃ wz, wz = w4.alloc (.cells #[.int .i64 (x), .int .i64 (y), .int .i64 (z)] 24) := ⟨_, rfl⟩
    have hb : Below w4.heap.size w4 w5 := by rw [hw]; exact below_alloc _ _
    have Y5 : Hid (Box w5 w4.heap.size (x) (y) (z)) := Lib.hid (by rw [hw]; exact Box.new _ _ _ _)
    have X5 := Lib.hid (X4.out.below hb)
    have B5 := Lib.hid (B4.out.trans (hb.mono B4.out.size))
    have G5 := Lib.hid (G4.out.on hb)
    rw [← hw]
    clear hb hw
    clear c0 c1 c2 hlx
    obtain ⟨⟨c0, c1, c2⟩, _⟩ := Box.cells X5.out
    have hlx := X5.out.lt
    obtain ⟨⟨d0, d1, d2⟩, _⟩ := Box.cells Y5.out
    go_wp2_with fail
    refine (iread_inv _ _ hsz hc0.out _ G5.out (HEr.out.on B5.out)).mono ?_
    rintro e w6 ⟨rfl, hb⟩
    have X6 := Lib.hid (X5.out.below hb)
    have B6 := Lib.hid (B5.out.trans (hb.mono B5.out.size))
    have G6 := Lib.hid (G5.out.on hb)
    clear hb
    clear c0 c1 c2 hlx d0 d1 d2
    obtain ⟨wz, hwz⟩ : ∃ wz, wz = w6.alloc (.cells #[.int .i64 0, .int .i64 0, .int .i64 0] 24) := ⟨_, rfl⟩
    have hb : Below w6.heap.size w6 wz := by rw [hwz]; exact below_alloc _ _
    have Bz := Lib.hid (B6.out.trans (hb.mono B6.out.size))
    have Gz := Lib.hid (G6.out.on hb)
    obtain ⟨⟨c0, c1, c2⟩, _⟩ := Box.cells (X6.out.below hb)
    rw [hwz] at c0 c1 c2 Gz Bz
    clear hwz hb
    go_wp2_with fail
    refine (itext_any _ _ _ _ _ Gz.out).mono ?_
    rintro e wf ⟨rfl, hb⟩
    go_wp2
    go_ret
    exact ⟨rfl, Bz.out.trans (hb.mono Bz.out.size)⟩
  · have tg := talkGuard
    have te := run_equal_talk
    have tr := talkB_refl 0 0 0
    go_wp2_with fail
    refine (iread_inv _ _ (by omega) hv _ G1.out (HEr.out.on B1.out)).mono ?_
    rintro e w2 ⟨rfl, hb⟩
    have B2 := Lib.hid (B1.out.trans (hb.mono B1.out.size))
    have G2 := Lib.hid (G1.out.on hb)
    clear hb
    go_wp2_with fail
    obtain ⟨w3, hw⟩ : ∃ wz, wz = w2.alloc (.cells #[.int .i64 (0), .int .i64 (0), .int .i64 (0)] 24) := ⟨_, rfl⟩
    have hb : Below w2.heap.size w2 w3 := by rw [hw]; exact below_alloc _ _
    have X3 : Hid (Box w3 w2.heap.size (0) (0) (0)) := Lib.hid (by rw [hw]; exact Box.new _ _ _ _)
    have B3 := Lib.hid (B2.out.trans (hb.mono B2.out.size))
    have G3 := Lib.hid (G2.out.on hb)
    rw [← hw]
    clear hb hw
    go_wp2_with fail
    refine (sread_inv _ _ (by omega) hv _).mono ?_
    rintro e w4 ⟨rfl, hb⟩
    have X4 := Lib.hid (X3.out.below hb)
    have B4 := Lib.hid (B3.out.trans (hb.mono B3.out.size))
    have G4 := Lib.hid (G3.out.on hb)
    clear hb
    obtain ⟨⟨c0, c1, c2⟩, _⟩ := Box.cells X4.out
    have hlx := X4.out.lt
    go_wp2_with fail
    obtain ⟨w5, hw⟩ : ∃ wz, wz = w4.alloc (.cells #[.int .i64 (0), .int .i64 (0), .int .i64 (0)] 24) := ⟨_, rfl⟩
    have hb : Below w4.heap.size w4 w5 := by rw [hw]; exact below_alloc _ _
    have Y5 : Hid (Box w5 w4.heap.size (0) (0) (0)) := Lib.hid (by rw [hw]; exact Box.new _ _ _ _)
    have X5 := Lib.hid (X4.out.below hb)
    have B5 := Lib.hid (B4.out.trans (hb.mono B4.out.size))
    have G5 := Lib.hid (G4.out.on hb)
    rw [← hw]
    clear hb hw
    clear c0 c1 c2 hlx
    obtain ⟨⟨c0, c1, c2⟩, _⟩ := Box.cells X5.out
    have hlx := X5.out.lt
    obtain ⟨⟨d0, d1, d2⟩, _⟩ := Box.cells Y5.out
    go_wp2_with fail
    refine (alive_any _ G5.out).mono ?_
    rintro e wz_ ⟨rfl, rfl⟩
    go_wp2
    go_ret
    exact ⟨rfl, B5.out⟩

end Go.Proofs.YtacaeoalplggfacDoor
