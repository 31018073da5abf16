/- ReadTalk, both: a text of a talk, and any other. -/
import Derived.Test.YtiinifcepcaonaaDoorRdSq
import Derived.Test.YtiinifcepcaonaaDoorReadW
namespace Go.Proofs.YtiinifcepcaonaaDoor
open Go.RowKit

/-- The text is that of a talk of the group. -/
def Valid (g : Int) (s : ByteArray) : Prop := ∃ x y z, l2B g x y z = true ∧ textOf g x y z = s
theorem valid_nat {g x y z : Int} (hx : l2B g x y z = true) : ∃ a b c : Nat, x = a ∧ y = b ∧ z = c ∧ a < 100 ∧ b < 100 ∧ c < 100 ∧ textOf g x y z = txt a b c := by
  obtain ⟨hs, ha, ht⟩ := l2B_true.1 hx
  obtain ⟨s0, _, s1⟩ := elB_bound hs
  obtain ⟨⟨g0, g4⟩, a0, a1⟩ := exB_true.1 ha
  obtain ⟨_, t0, t1⟩ := exB_true.1 ht
  obtain ⟨o1, o2⟩ := ord_bd g0 g4
  obtain ⟨x, rfl⟩ := Int.eq_ofNat_of_zero_le (show 0 ≤ x by omega)
  obtain ⟨y, rfl⟩ := Int.eq_ofNat_of_zero_le a0
  obtain ⟨z, rfl⟩ := Int.eq_ofNat_of_zero_le t0
  exact ⟨x, y, z, rfl, rfl, rfl, by omega, by omega, by omega, by unfold textOf; rw [hx]; rfl⟩
theorem txt_list (x y z : Nat) : (txt x y z).data.toList = Lib.decDigits x ++ 44 :: (Lib.decDigits y ++ 44 :: Lib.decDigits z) := by
  rw [txt_assoc]
  simp [numT, ByteArray.data_append]
theorem sread_val (g x y z : Int) (hx : l2B g x y z = true) (w : World) : Calls Tryd.prog 84 #[.int .i64 g, .string (textOf g x y z)] w fun e w' => e = .returned (.tuple #[.agg #[.int .i64 x, .int .i64 y, .int .i64 z], .bool true]) ∧ Below w.heap.size w w' := by
  obtain ⟨a, b, c, rfl, rfl, rfl, ha, hb, hc, he⟩ := valid_nat hx
  have h := sread_yes g (textOf g a b c) (by rw [he]; have := (txt_size ha hb hc).1; omega) (Lib.decDigits a) (Lib.decDigits b) (Lib.decDigits c)
    (by rw [he, txt_list]; exact words_three _ _ _ (num_ne ha) (num_ne hb) (num_ne hc)) (by rw [dig_num ha, dig_num hb, dig_num hc]) w
  rw [dig_num ha, dig_num hb, dig_num hc] at h
  exact h
theorem sread_inv (g : Int) (s : ByteArray) (hs : s.size ≤ 1048576) (hn : ¬ Valid g s) (w : World) : Calls Tryd.prog 84 #[.int .i64 g, .string s] w fun e w' => e = .returned (.tuple #[.agg #[.int .i64 0, .int .i64 0, .int .i64 0], .bool false]) ∧ Below w.heap.size w w' := by
  by_cases h3 : (wordsC s.data.toList).length = 3
  · obtain ⟨p0, p1, p2, hw⟩ : ∃ p0 p1 p2, wordsC s.data.toList = [p0, p1, p2] := by
      match hl : wordsC s.data.toList, h3 with
      | [p0, p1, p2], _ => exact ⟨p0, p1, p2, rfl⟩
    refine sread_no g s hs p0 p1 p2 hw (fun ht => ?_) w
    cases hx : l2B g (digV p0) (digV p1) (digV p2)
    · rw [text_none hx] at ht
      rw [← ht] at hw
      have e : (wordsC (⟨#[]⟩ : ByteArray).data.toList).length = 1 := by decide
      rw [hw] at e
      simp at e
    · exact hn ⟨_, _, _, hx, ht⟩
  · exact sread_long g s hs h3 w
/-- The talk of a text: its numbers, and whether there is one. -/
def rdO (g : Int) (s : ByteArray) : Option (Int × Int × Int) := match wordsC s.data.toList with
  | [p0, p1, p2] => if l2B g (digV p0) (digV p1) (digV p2) = true ∧ (textOf g (digV p0) (digV p1) (digV p2)).data.toList = s.data.toList then some (digV p0, digV p1, digV p2) else none
  | _ => none
theorem bytes_ext {a b : ByteArray} (h : a.data.toList = b.data.toList) : a = b := by
  cases a with | mk a => cases b with | mk b => cases a; cases b; simp only at h; subst h; rfl
theorem rdO_val {g x y z : Int} (hx : l2B g x y z = true) : rdO g (textOf g x y z) = some (x, y, z) := by
  obtain ⟨a, b, c, rfl, rfl, rfl, ha, hb, hc, he⟩ := valid_nat hx
  have hw : wordsC (textOf g a b c).data.toList = [Lib.decDigits a, Lib.decDigits b, Lib.decDigits c] := by
    rw [he, txt_list]; exact words_three _ _ _ (num_ne ha) (num_ne hb) (num_ne hc)
  unfold rdO
  rw [hw]
  simp [dig_num ha, dig_num hb, dig_num hc, hx]
theorem rdO_some {g : Int} {s : ByteArray} {x y z : Int} (h : rdO g s = some (x, y, z)) : l2B g x y z = true ∧ textOf g x y z = s := by
  unfold rdO at h
  split at h
  · rename_i p0 p1 p2 hw
    split at h
    · rename_i hc
      cases h
      exact ⟨hc.1, bytes_ext hc.2⟩
    · cases h
  · cases h
theorem rdO_none {g : Int} {s : ByteArray} (h : rdO g s = none) : ¬ Valid g s := fun ⟨x, y, z, hx, ht⟩ => by
  rw [← ht, rdO_val hx] at h; cases h
theorem sread_some {g : Int} {s : ByteArray} {x y z : Int} (h : rdO g s = some (x, y, z)) (w : World) : Calls Tryd.prog 84 #[.int .i64 g, .string s] w fun e w' => e = .returned (.tuple #[.agg #[.int .i64 x, .int .i64 y, .int .i64 z], .bool true]) ∧ Below w.heap.size w w' := by
  obtain ⟨hx, ht⟩ := rdO_some h
  rw [← ht]; exact sread_val g x y z hx w
theorem sread_none {g : Int} {s : ByteArray} (h : rdO g s = none) (hs : s.size ≤ 1048576) (w : World) : Calls Tryd.prog 84 #[.int .i64 g, .string s] w fun e w' => e = .returned (.tuple #[.agg #[.int .i64 0, .int .i64 0, .int .i64 0], .bool false]) ∧ Below w.heap.size w w' := sread_inv g s hs (rdO_none h) w
end Go.Proofs.YtiinifcepcaonaaDoor
