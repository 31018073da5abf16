/- The three pieces of a talk's text; what impl.ReadTalk makes of it. -/
import Derived.Test.YtacaeoalplggfacDoorReadJ
namespace Go.Proofs.YtacaeoalplggfacDoor
open Go.RowKit

theorem txt_assoc (x y z : Nat) : txt x y z = numT x ++ ⟨#[44]⟩ ++ (numT y ++ ⟨#[44]⟩ ++ numT z) := by
  show numT x ++ comma ++ numT y ++ comma ++ numT z = _
  unfold comma
  simp only [ByteArray.append_assoc]
/-- The three pieces of a talk's text. -/
theorem txt_cut {x y z : Nat} (h1 : x < 100) (h2 : y < 100) : cutA (txt x y z) = numT x ∧ cutA (cutZ (txt x y z)) = numT y ∧ cutZ (cutZ (txt x y z)) = numT z := by
  rw [txt_assoc]
  obtain ⟨e1, e2⟩ := cut_num x h1 (numT y ++ ⟨#[44]⟩ ++ numT z)
  obtain ⟨e3, e4⟩ := cut_num y h2 (numT z)
  rw [e1, e2, e3, e4]
  exact ⟨rfl, rfl, rfl⟩
theorem txt_size {x y z : Nat} (h1 : x < 100) (h2 : y < 100) (h3 : z < 100) : (txt x y z).size ≤ 8 ∧ 2 ≤ (txt x y z).size := by
  have z1 := numT_size h1
  have z2 := numT_size h2
  have z3 := numT_size h3
  have e : (txt x y z).size = (numT x).size + 1 + (numT y).size + 1 + (numT z).size := by
    show (numT x ++ comma ++ numT y ++ comma ++ numT z).size = _
    simp only [ByteArray.size_append, comma_size]
  omega
/-- What the text of a valid talk is read as. -/
theorem iread_text (g x y z : Int) (hx : l2B g x y z = true) (w : World) (G : Gr w) : Calls Tryd.prog 13 #[.int .i64 g, .string (textOf g x y z)] w fun e w' => e = .returned (.tuple #[.agg #[.int .i64 x, .int .i64 y, .int .i64 z], .bool true]) ∧ Below w.heap.size w w' := by
  obtain ⟨hs, ha, ht⟩ := l2B_true.1 hx
  obtain ⟨s0, _, s1⟩ := elB_bound hs
  obtain ⟨⟨g0, g4⟩, a0, a1⟩ := exB_true.1 ha
  obtain ⟨_, t0, t1⟩ := exB_true.1 ht
  obtain ⟨o1, o2⟩ := ord_bd g0 g4
  obtain ⟨x, rfl⟩ := Int.eq_ofNat_of_zero_le (show 0 ≤ x by omega)
  obtain ⟨y, rfl⟩ := Int.eq_ofNat_of_zero_le a0
  obtain ⟨z, rfl⟩ := Int.eq_ofNat_of_zero_le t0
  have e : textOf g x y z = txt x y z := by unfold textOf; rw [hx]; rfl
  obtain ⟨c1, c2, c3⟩ := txt_cut (x := x) (y := y) (z := z) (by omega) (by omega)
  obtain ⟨z1, _⟩ := txt_size (x := x) (y := y) (z := z) (by omega) (by omega) (by omega)
  have hn : ∀ n : Nat, n < 100 → NumC (fun _ => True) (numT n) n := fun n hn w _ => numIn_ok n hn w
  refine iread_yes (fun _ => True) (fun _ _ _ _ => trivial) g x y z (textOf g x y z) (by rw [e]; omega) ?_ ?_ ?_ hx rfl w G trivial
  · rw [e, c1]; exact hn x (by omega)
  · rw [e, c2]; exact hn y (by omega)
  · rw [e, c3]; exact hn z (by omega)
theorem text_none {g s a t : Int} (h : l2B g s a t = false) : textOf g s a t = ⟨#[]⟩ := by unfold textOf; rw [h]; rfl
theorem text_some {g s a t : Int} (h : l2B g s a t = true) : ((textOf g s a t).toList == (⟨#[]⟩ : ByteArray).toList) = false := by
  rw [beq_eq_false_iff_ne]
  intro he
  have e := bytes_inj he
  obtain ⟨hs, ha, ht⟩ := l2B_true.1 h
  obtain ⟨s0, _, s1⟩ := elB_bound hs
  obtain ⟨⟨g0, g4⟩, a0, a1⟩ := exB_true.1 ha
  obtain ⟨_, t0, t1⟩ := exB_true.1 ht
  obtain ⟨o1, o2⟩ := ord_bd g0 g4
  have e2 : textOf g s a t = txt s.toNat a.toNat t.toNat := by unfold textOf; rw [h]; rfl
  have := (txt_size (x := s.toNat) (y := a.toNat) (z := t.toNat) (by omega) (by omega) (by omega)).2
  rw [← e2, e] at this
  exact absurd this (by decide)

end Go.Proofs.YtacaeoalplggfacDoor
