/- The Draw functions of chapter 2 that give numbers and talks. -/
import Derived.Test.YtacaeoalplggfadDoorDrawC
import Derived.Test.YtacaeoalplggfadDoorDrawT2
namespace Go.Proofs.YtacaeoalplggfadDoor
open Go.RowKit

def Draw4Post (lo hi : Int) (w : World) (e : Ending) (w' : World) : Prop :=
  ∃ g a b c : Int, e = .returned (.tuple #[.int .i64 g, .int .i64 a, .int .i64 b, .int .i64 c]) ∧ (lo ≤ g ∧ g ≤ hi) ∧ (-10000 ≤ a ∧ a ≤ 10000) ∧ (-10000 ≤ b ∧ b ≤ 10000) ∧ (-10000 ≤ c ∧ c ≤ 10000) ∧ Below w.heap.size w w'
/-- A group, a key and a talk. -/
def DrawTPost (w : World) (e : Ending) (w' : World) : Prop :=
  ∃ g key s a t : Int, e = .returned (.tuple #[.int .i64 g, .int .i64 key, .agg #[.int .i64 s, .int .i64 a, .int .i64 t]]) ∧ (-1 ≤ g ∧ g ≤ 4) ∧ (-3 ≤ s ∧ s ≤ 47) ∧ (-1 ≤ a ∧ a ≤ 23) ∧ (0 ≤ t ∧ t ≤ 23) ∧ Below w.heap.size w w'
def DrawXPost (w : World) (e : Ending) (w' : World) : Prop :=
  ∃ g s a t : Int, e = .returned (.tuple #[.int .i64 g, .agg #[.int .i64 s, .int .i64 a, .int .i64 t]]) ∧ (-1 ≤ g ∧ g ≤ 4) ∧ (-3 ≤ s ∧ s ≤ 47) ∧ (-1 ≤ a ∧ a ≤ 23) ∧ (0 ≤ t ∧ t ≤ 23) ∧ Below w.heap.size w w'

theorem drawTalksTrue_any (s : Value) (w : World) (h : CodeIn w s) : Calls Tryd.prog 7 #[s] w (Draw3Post (-1) 4 w) := by
  go_enter Tryd.func7, Tryd.ntmps7
  go_wp2_with fail
  refine (open_any _ _ h).mono ?_
  rintro e w1 ⟨rfl, H1, hb1⟩
  have R1 := Lib.hid H1; clear H1
  have B1 := Lib.hid hb1
  have hs1 := hb1.size
  clear hb1 h
  go_wp2_with fail
  refine (drawgroup_any _ _ _ _ R1.out (by omega) (by omega) (by omega)).mono ?_
  rintro e w2 ⟨v1, rfl, l1, u1, hg, k1, hk1, hr⟩
  have R2 := Lib.hid hr
  have B2 := Lib.hid (below_of_grown B1.out hg hs1 (Nat.le_refl _))
  have hs2 := Nat.le_trans hs1 hg.size
  clear hg hr
  go_wp2_with fail
  refine (drawexp_any _ _ _ _ _ R2.out (by omega) (by omega) (by omega)).mono ?_
  rintro e w3 ⟨v2, rfl, l2, u2, hg, k2, hk2, hr⟩
  have R3 := Lib.hid hr
  have B3 := Lib.hid (below_of_grown B2.out hg hs2 (Nat.le_refl _))
  have hs3 := Nat.le_trans hs2 hg.size
  clear hg hr
  go_wp2_with fail
  refine (drawexp_any _ _ _ _ _ R3.out (by omega) (by omega) (by omega)).mono ?_
  rintro e w4 ⟨v3, rfl, l3, u3, hg, k3, hk3, hr⟩
  have R4 := Lib.hid hr
  have B4 := Lib.hid (below_of_grown B3.out hg hs3 (Nat.le_refl _))
  have hs4 := Nat.le_trans hs3 hg.size
  clear hg hr
  go_wp2
  go_ret3
  exact ⟨_, _, _, rfl, ⟨by omega, by omega⟩, ⟨by omega, by omega⟩, ⟨by omega, by omega⟩, B4.out⟩

theorem drawTalksMade_any (s : Value) (w : World) (h : CodeIn w s) : Calls Tryd.prog 15 #[s] w (Draw3Post (-1) 4 w) := by
  go_enter Tryd.func15, Tryd.ntmps15
  go_wp2_with fail
  refine (open_any _ _ h).mono ?_
  rintro e w1 ⟨rfl, H1, hb1⟩
  have R1 := Lib.hid H1; clear H1
  have B1 := Lib.hid hb1
  have hs1 := hb1.size
  clear hb1 h
  go_wp2_with fail
  refine (drawgroup_any _ _ _ _ R1.out (by omega) (by omega) (by omega)).mono ?_
  rintro e w2 ⟨v1, rfl, l1, u1, hg, k1, hk1, hr⟩
  have R2 := Lib.hid hr
  have B2 := Lib.hid (below_of_grown B1.out hg hs1 (Nat.le_refl _))
  have hs2 := Nat.le_trans hs1 hg.size
  clear hg hr
  go_wp2_with fail
  refine (drawelem_any _ _ _ _ _ R2.out (by omega) (by omega) (by omega)).mono ?_
  rintro e w3 ⟨v2, rfl, l2, u2, hg, k2, hk2, hr⟩
  have R3 := Lib.hid hr
  have B3 := Lib.hid (below_of_grown B2.out hg hs2 (Nat.le_refl _))
  have hs3 := Nat.le_trans hs2 hg.size
  clear hg hr
  go_wp2_with fail
  refine (drawexp_any _ _ _ _ _ R3.out (by omega) (by omega) (by omega)).mono ?_
  rintro e w4 ⟨v3, rfl, l3, u3, hg, k3, hk3, hr⟩
  have R4 := Lib.hid hr
  have B4 := Lib.hid (below_of_grown B3.out hg hs3 (Nat.le_refl _))
  have hs4 := Nat.le_trans hs3 hg.size
  clear hg hr
  go_wp2
  go_ret3
  exact ⟨_, _, _, rfl, ⟨by omega, by omega⟩, ⟨by omega, by omega⟩, ⟨by omega, by omega⟩, B4.out⟩

theorem code_alloc {w : World} {s : Value} (h : CodeIn w s) (o : Obj) : CodeIn (w.alloc o) s := by
  rcases h with h | ⟨b, off, len, cap, z, e, g1, g2, g3, g4, g5, g6⟩
  · exact .inl h
  · exact .inr ⟨b, off, len, cap, z, e, g1, g2, g3, by simp; omega, fun j hj => (World.cell?_alloc_past _ _ _ g4).trans (g5 j hj), g6⟩

end Go.Proofs.YtacaeoalplggfadDoor
