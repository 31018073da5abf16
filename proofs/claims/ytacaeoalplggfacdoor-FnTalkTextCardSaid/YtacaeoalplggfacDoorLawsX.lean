/- The law of TalkText, walked. -/
import Derived.Test.YtacaeoalplggfacDoorLawsA
import Derived.Test.YtacaeoalplggfacDoorReadJ
import Derived.Test.YtacaeoalplggfacDoorDrawU
namespace Go.Proofs.YtacaeoalplggfacDoor
open Go.RowKit

theorem Box.below {w w' : World} {N : Nat} {s a t : Int} (h : Box w N s a t) (hb : Below w.heap.size w w') : Box w' N s a t := (hb.block N h.lt).trans h
theorem txt_assoc (x y z : Nat) : txt x y z = numT x ++ ⟨#[44]⟩ ++ (numT y ++ ⟨#[44]⟩ ++ numT z) := by
  show numT x ++ comma ++ numT y ++ comma ++ numT z = _
  unfold comma
  simp only [ByteArray.append_assoc]
/-- The three pieces of a talk's text. -/
theorem txt_cut {x y z : Nat} (h1 : x < 100) (h2 : y < 100) : cutA (txt x y z) = numT x ∧ cutA (cutZ (txt x y z)) = numT y ∧ cutZ (cutZ (txt x y z)) = numT z := by
  rw [txt_assoc]
  obtain ⟨e1, e2⟩ := cut_num x h1 (numT y ++ ⟨#[44]⟩ ++ numT z)
  obtain ⟨e3, e4⟩ := cut_num y h2 (numT z)
  rw [e1, e2, e3, e4]
  exact ⟨rfl, rfl, rfl⟩
theorem txt_size {x y z : Nat} (h1 : x < 100) (h2 : y < 100) (h3 : z < 100) : (txt x y z).size ≤ 8 ∧ 2 ≤ (txt x y z).size := by
  have z1 := numT_size h1
  have z2 := numT_size h2
  have z3 := numT_size h3
  have e : (txt x y z).size = (numT x).size + 1 + (numT y).size + 1 + (numT z).size := by
    show (numT x ++ comma ++ numT y ++ comma ++ numT z).size = _
    simp only [ByteArray.size_append, comma_size]
  omega
/-- What the text of a valid talk is read as. -/
theorem iread_text (g x y z : Int) (hx : l2B g x y z = true) (w : World) (G : Gr w) : Calls Tryd.prog 13 #[.int .i64 g, .string (textOf g x y z)] w fun e w' => e = .returned (.tuple #[.agg #[.int .i64 x, .int .i64 y, .int .i64 z], .bool true]) ∧ Below w.heap.size w w' := by
  obtain ⟨hs, ha, ht⟩ := l2B_true.1 hx
  obtain ⟨s0, _, s1⟩ := elB_bound hs
  obtain ⟨⟨g0, g4⟩, a0, a1⟩ := exB_true.1 ha
  obtain ⟨_, t0, t1⟩ := exB_true.1 ht
  obtain ⟨o1, o2⟩ := ord_bd g0 g4
  obtain ⟨x, rfl⟩ := Int.eq_ofNat_of_zero_le (show 0 ≤ x by omega)
  obtain ⟨y, rfl⟩ := Int.eq_ofNat_of_zero_le a0
  obtain ⟨z, rfl⟩ := Int.eq_ofNat_of_zero_le t0
  have e : textOf g x y z = txt x y z := by unfold textOf; rw [hx]; rfl
  obtain ⟨c1, c2, c3⟩ := txt_cut (x := x) (y := y) (z := z) (by omega) (by omega)
  obtain ⟨z1, _⟩ := txt_size (x := x) (y := y) (z := z) (by omega) (by omega) (by omega)
  have hn : ∀ n : Nat, n < 100 → NumC (fun _ => True) (numT n) n := fun n hn w _ => numIn_ok n hn w
  refine iread_yes (fun _ => True) (fun _ _ _ _ => trivial) g x y z (textOf g x y z) (by rw [e]; omega) ?_ ?_ ?_ hx rfl w G trivial
  · rw [e, c1]; exact hn x (by omega)
  · rw [e, c2]; exact hn y (by omega)
  · rw [e, c3]; exact hn z (by omega)
theorem text_none {g s a t : Int} (h : l2B g s a t = false) : textOf g s a t = ⟨#[]⟩ := by unfold textOf; rw [h]; rfl
theorem text_some {g s a t : Int} (h : l2B g s a t = true) : ((textOf g s a t).toList == (⟨#[]⟩ : ByteArray).toList) = false := by
  rw [beq_eq_false_iff_ne]
  intro he
  have e := bytes_inj he
  obtain ⟨hs, ha, ht⟩ := l2B_true.1 h
  obtain ⟨s0, _, s1⟩ := elB_bound hs
  obtain ⟨⟨g0, g4⟩, a0, a1⟩ := exB_true.1 ha
  obtain ⟨_, t0, t1⟩ := exB_true.1 ht
  obtain ⟨o1, o2⟩ := ord_bd g0 g4
  have e2 : textOf g s a t = txt s.toNat a.toNat t.toNat := by unfold textOf; rw [h]; rfl
  have := (txt_size (x := s.toNat) (y := a.toNat) (z := t.toNat) (by omega) (by omega) (by omega)).2
  rw [← e2, e] at this
  exact absurd this (by decide)

set_option maxHeartbeats 1600000 in
theorem lTalkText_walk (s : Value) (w : World) (h : CodeIn w s) (G : Gr w) : Calls Tryd.prog 3 #[s] w fun e w' => e = .returned (.bool true) ∧ Below w.heap.size w w' := by
  obtain ⟨a0, len0, cap0, rfl⟩ := h.slice
  have H := Lib.hid h; clear h
  have G0 := Lib.hid G; clear G
  have B0 := Lib.hid (Below.refl w.heap.size w)
  by_cases hl : 1048576 < len0
  · go_enter Tryd.func3, Tryd.ntmps3
    go_wp2
    go_ret
    exact ⟨rfl, Below.refl _ _⟩
  go_enter Tryd.func3, Tryd.ntmps3
  go_wp2_with fail
  refine (drawTalkText_any _ _ H.out).mono ?_
  rintro e w1 ⟨g, s, a, t, rfl, lg, ls, la, lt, hb⟩
  have B1 := Lib.hid hb
  have G1 := Lib.hid (G0.out.on hb)
  clear hb
  go_wp2_with fail
  obtain ⟨w2, hw⟩ : ∃ wz, wz = w1.alloc (.cells #[.int .i64 (s), .int .i64 (a), .int .i64 (t)] 24) := ⟨_, rfl⟩
  have hb : Below w1.heap.size w1 w2 := by rw [hw]; exact below_alloc _ _
  have X2 : Hid (Box w2 w1.heap.size (s) (a) (t)) := Lib.hid (by rw [hw]; exact Box.new _ _ _ _)
  have B2 := Lib.hid (B1.out.trans (hb.mono B1.out.size))
  have G2 := Lib.hid (G1.out.on hb)
  rw [← hw]
  clear hb hw
  obtain ⟨⟨c0, c1, c2⟩, _⟩ := Box.cells X2.out
  have hlx := X2.out.lt
  go_wp2_with fail
  refine (itext_any _ _ _ _ _ G2.out).mono ?_
  rintro e w3 ⟨rfl, hb⟩
  have X3 := Lib.hid (X2.out.below hb)
  have B3 := Lib.hid (B2.out.trans (hb.mono B2.out.size))
  have G3 := Lib.hid (G2.out.on hb)
  clear hb
  clear c0 c1 c2 hlx
  obtain ⟨⟨c0, c1, c2⟩, _⟩ := Box.cells X3.out
  have hlx := X3.out.lt
  go_wp2_with fail
  refine (stext_any _ _ _ _ _).mono ?_
  rintro e w4 ⟨rfl, hb⟩
  have X4 := Lib.hid (X3.out.below hb)
  have B4 := Lib.hid (B3.out.trans (hb.mono B3.out.size))
  have G4 := Lib.hid (G3.out.on hb)
  clear hb
  clear c0 c1 c2 hlx
  have hee : ((textOf g s a t).toList == (textOf g s a t).toList) = true := beq_self_eq_true _
  cases hx : l2B g s a t
  · rw [text_none hx]
    go_wp2_with fail
    refine (alive_any _ G4.out).mono ?_
    rintro e wz_ ⟨rfl, rfl⟩
    go_wp2
    go_ret
    exact ⟨rfl, B4.out⟩
  · have he0 := text_some hx
    have hl0 : (⟨#[]⟩ : ByteArray).toList = [] := by rw [ByteArray.toList_eq]
    rw [hl0] at he0
    have he1 : ¬ (textOf g s a t).toList = [] := by simpa using he0
    have he2 : (textOf g s a t).toList.isEmpty = false := by simpa using he0
    clear hl0
    have tg := talkGuard
    have te := run_equal_talk
    have tr := talkB_refl s a t
    go_wp2_with fail
    refine (iread_text _ _ _ _ hx _ G4.out).mono ?_
    rintro e w5 ⟨rfl, hb⟩
    have X5 := Lib.hid (X4.out.below hb)
    have B5 := Lib.hid (B4.out.trans (hb.mono B4.out.size))
    have G5 := Lib.hid (G4.out.on hb)
    clear hb
    obtain ⟨⟨c0, c1, c2⟩, _⟩ := Box.cells X5.out
    have hlx := X5.out.lt
    go_wp2_with fail
    obtain ⟨w6, hw⟩ : ∃ wz, wz = w5.alloc (.cells #[.int .i64 (s), .int .i64 (a), .int .i64 (t)] 24) := ⟨_, rfl⟩
    have hb : Below w5.heap.size w5 w6 := by rw [hw]; exact below_alloc _ _
    have Y6 : Hid (Box w6 w5.heap.size (s) (a) (t)) := Lib.hid (by rw [hw]; exact Box.new _ _ _ _)
    have X6 := Lib.hid (X5.out.below hb)
    have B6 := Lib.hid (B5.out.trans (hb.mono B5.out.size))
    have G6 := Lib.hid (G5.out.on hb)
    rw [← hw]
    clear hb hw
    clear c0 c1 c2 hlx
    obtain ⟨⟨c0, c1, c2⟩, _⟩ := Box.cells X6.out
    have hlx := X6.out.lt
    obtain ⟨⟨d0, d1, d2⟩, _⟩ := Box.cells Y6.out
    go_wp2
    go_ret
    exact ⟨rfl, B6.out⟩

end Go.Proofs.YtacaeoalplggfacDoor
