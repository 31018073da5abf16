/- The three pieces of a talk's text; what impl.ReadTalk makes of it. -/
import Derived.Test.YtiinifcepcaonaaDoorReadJ
namespace Go.Proofs.YtiinifcepcaonaaDoor
open Go.RowKit

theorem txt_assoc (x y z : Nat) : txt x y z = numT x ++ ⟨#[44]⟩ ++ (numT y ++ ⟨#[44]⟩ ++ numT z) := by
  show numT x ++ comma ++ numT y ++ comma ++ numT z = _
  unfold comma
  simp only [ByteArray.append_assoc]
/-- The three pieces of a talk's text. -/
theorem txt_cut {x y z : Nat} (h1 : x < 100) (h2 : y < 100) : cutA (txt x y z) = numT x ∧ cutA (cutZ (txt x y z)) = numT y ∧ cutZ (cutZ (txt x y z)) = numT z := by
  rw [txt_assoc]
  obtain ⟨e1, e2⟩ := cut_num x h1 (numT y ++ ⟨#[44]⟩ ++ numT z)
  obtain ⟨e3, e4⟩ := cut_num y h2 (numT z)
  rw [e1, e2, e3, e4]
  exact ⟨rfl, rfl, rfl⟩
theorem txt_size {x y z : Nat} (h1 : x < 100) (h2 : y < 100) (h3 : z < 100) : (txt x y z).size ≤ 8 ∧ 2 ≤ (txt x y z).size := by
  have z1 := numT_size h1
  have z2 := numT_size h2
  have z3 := numT_size h3
  have e : (txt x y z).size = (numT x).size + 1 + (numT y).size + 1 + (numT z).size := by
    show (numT x ++ comma ++ numT y ++ comma ++ numT z).size = _
    simp only [ByteArray.size_append, comma_size]
  omega
theorem text_none {g s a t : Int} (h : l2B g s a t = false) : textOf g s a t = ⟨#[]⟩ := by unfold textOf; rw [h]; rfl
theorem text_some {g s a t : Int} (h : l2B g s a t = true) : ((textOf g s a t).toList == (⟨#[]⟩ : ByteArray).toList) = false := by
  rw [beq_eq_false_iff_ne]
  intro he
  have e := bytes_inj he
  obtain ⟨hs, ha, ht⟩ := l2B_true.1 h
  obtain ⟨s0, _, s1⟩ := elB_bound hs
  obtain ⟨⟨g0, g4⟩, a0, a1⟩ := exB_true.1 ha
  obtain ⟨_, t0, t1⟩ := exB_true.1 ht
  obtain ⟨o1, o2⟩ := ord_bd g0 g4
  have e2 : textOf g s a t = txt s.toNat a.toNat t.toNat := by unfold textOf; rw [h]; rfl
  have := (txt_size (x := s.toNat) (y := a.toNat) (z := t.toNat) (by omega) (by omega) (by omega)).2
  rw [← e2, e] at this
  exact absurd this (by decide)

end Go.Proofs.YtiinifcepcaonaaDoor
