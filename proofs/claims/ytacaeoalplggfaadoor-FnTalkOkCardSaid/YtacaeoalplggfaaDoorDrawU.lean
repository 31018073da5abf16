/- The Draw functions of chapter 2 that give numbers and talks. -/
import Derived.Test.YtacaeoalplggfaaDoorDrawC
import Derived.Test.YtacaeoalplggfaaDoorDrawT2
namespace Go.Proofs.YtacaeoalplggfaaDoor
open Go.RowKit

def Draw4Post (lo hi : Int) (w : World) (e : Ending) (w' : World) : Prop :=
  ∃ g a b c : Int, e = .returned (.tuple #[.int .i64 g, .int .i64 a, .int .i64 b, .int .i64 c]) ∧ (lo ≤ g ∧ g ≤ hi) ∧ (-10000 ≤ a ∧ a ≤ 10000) ∧ (-10000 ≤ b ∧ b ≤ 10000) ∧ (-10000 ≤ c ∧ c ≤ 10000) ∧ Below w.heap.size w w'
/-- A group, a key and a talk. -/
def DrawTPost (w : World) (e : Ending) (w' : World) : Prop :=
  ∃ g key s a t : Int, e = .returned (.tuple #[.int .i64 g, .int .i64 key, .agg #[.int .i64 s, .int .i64 a, .int .i64 t]]) ∧ (-1 ≤ g ∧ g ≤ 4) ∧ (-3 ≤ s ∧ s ≤ 47) ∧ (-1 ≤ a ∧ a ≤ 23) ∧ (0 ≤ t ∧ t ≤ 23) ∧ Below w.heap.size w w'
def DrawXPost (w : World) (e : Ending) (w' : World) : Prop :=
  ∃ g s a t : Int, e = .returned (.tuple #[.int .i64 g, .agg #[.int .i64 s, .int .i64 a, .int .i64 t]]) ∧ (-1 ≤ g ∧ g ≤ 4) ∧ (-3 ≤ s ∧ s ≤ 47) ∧ (-1 ≤ a ∧ a ≤ 23) ∧ (0 ≤ t ∧ t ≤ 23) ∧ Below w.heap.size w w'

theorem drawKeyOf_any (s : Value) (w : World) (h : CodeIn w s) : Calls Tryd.prog 9 #[s] w (Draw2Post (-1) 4 w) := by
  go_enter Tryd.func9, Tryd.ntmps9
  go_wp2_with fail
  refine (open_any _ _ h).mono ?_
  rintro e w1 ⟨rfl, H1, hb1⟩
  have R1 := Lib.hid H1; clear H1
  have B1 := Lib.hid hb1
  have hs1 := hb1.size
  clear hb1 h
  go_wp2_with fail
  refine (drawgroup_any _ _ _ _ R1.out (by omega) (by omega) (by omega)).mono ?_
  rintro e w2 ⟨v1, rfl, l1, u1, hg, k1, hk1, hr⟩
  have R2 := Lib.hid hr
  have B2 := Lib.hid (below_of_grown B1.out hg hs1 (Nat.le_refl _))
  have hs2 := Nat.le_trans hs1 hg.size
  clear hg hr
  go_wp2_with fail
  refine (drawexp_any _ _ _ _ _ R2.out (by omega) (by omega) (by omega)).mono ?_
  rintro e w3 ⟨v2, rfl, l2, u2, hg, k2, hk2, hr⟩
  have R3 := Lib.hid hr
  have B3 := Lib.hid (below_of_grown B2.out hg hs2 (Nat.le_refl _))
  have hs3 := Nat.le_trans hs2 hg.size
  clear hg hr
  go_wp2
  go_ret2
  exact ⟨_, _, rfl, ⟨by omega, by omega⟩, ⟨by omega, by omega⟩, B3.out⟩

theorem drawTalkOf_any (s : Value) (w : World) (h : CodeIn w s) : Calls Tryd.prog 15 #[s] w (Draw4Post (-1) 4 w) := by
  go_enter Tryd.func15, Tryd.ntmps15
  go_wp2_with fail
  refine (open_any _ _ h).mono ?_
  rintro e w1 ⟨rfl, H1, hb1⟩
  have R1 := Lib.hid H1; clear H1
  have B1 := Lib.hid hb1
  have hs1 := hb1.size
  clear hb1 h
  go_wp2_with fail
  refine (drawgroup_any _ _ _ _ R1.out (by omega) (by omega) (by omega)).mono ?_
  rintro e w2 ⟨v1, rfl, l1, u1, hg, k1, hk1, hr⟩
  have R2 := Lib.hid hr
  have B2 := Lib.hid (below_of_grown B1.out hg hs1 (Nat.le_refl _))
  have hs2 := Nat.le_trans hs1 hg.size
  clear hg hr
  go_wp2_with fail
  refine (drawexp_any _ _ _ _ _ R2.out (by omega) (by omega) (by omega)).mono ?_
  rintro e w3 ⟨v2, rfl, l2, u2, hg, k2, hk2, hr⟩
  have R3 := Lib.hid hr
  have B3 := Lib.hid (below_of_grown B2.out hg hs2 (Nat.le_refl _))
  have hs3 := Nat.le_trans hs2 hg.size
  clear hg hr
  go_wp2_with fail
  refine (drawexp_any _ _ _ _ _ R3.out (by omega) (by omega) (by omega)).mono ?_
  rintro e w4 ⟨v3, rfl, l3, u3, hg, k3, hk3, hr⟩
  have R4 := Lib.hid hr
  have B4 := Lib.hid (below_of_grown B3.out hg hs3 (Nat.le_refl _))
  have hs4 := Nat.le_trans hs3 hg.size
  clear hg hr
  go_wp2_with fail
  refine (drawexp_any _ _ _ _ _ R4.out (by omega) (by omega) (by omega)).mono ?_
  rintro e w5 ⟨v4, rfl, l4, u4, hg, k4, hk4, hr⟩
  have R5 := Lib.hid hr
  have B5 := Lib.hid (below_of_grown B4.out hg hs4 (Nat.le_refl _))
  have hs5 := Nat.le_trans hs4 hg.size
  clear hg hr
  go_wp2
  exact bodyPost_ret (v := .tuple #[.int .i64 v1, .int .i64 v2, .int .i64 v3, .int .i64 v4]) (by simp [results, Tryd.results15, go_sem]) rfl ⟨_, _, _, _, rfl, ⟨by omega, by omega⟩, ⟨by omega, by omega⟩, ⟨by omega, by omega⟩, ⟨by omega, by omega⟩, B5.out⟩

theorem drawMadeUp_any (s : Value) (w : World) (h : CodeIn w s) : Calls Tryd.prog 22 #[s] w (Draw4Post (-1) 4 w) := by
  go_enter Tryd.func22, Tryd.ntmps22
  go_wp2_with fail
  refine (open_any _ _ h).mono ?_
  rintro e w1 ⟨rfl, H1, hb1⟩
  have R1 := Lib.hid H1; clear H1
  have B1 := Lib.hid hb1
  have hs1 := hb1.size
  clear hb1 h
  go_wp2_with fail
  refine (drawgroup_any _ _ _ _ R1.out (by omega) (by omega) (by omega)).mono ?_
  rintro e w2 ⟨v1, rfl, l1, u1, hg, k1, hk1, hr⟩
  have R2 := Lib.hid hr
  have B2 := Lib.hid (below_of_grown B1.out hg hs1 (Nat.le_refl _))
  have hs2 := Nat.le_trans hs1 hg.size
  clear hg hr
  go_wp2_with fail
  refine (drawelem_any _ _ _ _ _ R2.out (by omega) (by omega) (by omega)).mono ?_
  rintro e w3 ⟨v2, rfl, l2, u2, hg, k2, hk2, hr⟩
  have R3 := Lib.hid hr
  have B3 := Lib.hid (below_of_grown B2.out hg hs2 (Nat.le_refl _))
  have hs3 := Nat.le_trans hs2 hg.size
  clear hg hr
  go_wp2_with fail
  refine (drawexp_any _ _ _ _ _ R3.out (by omega) (by omega) (by omega)).mono ?_
  rintro e w4 ⟨v3, rfl, l3, u3, hg, k3, hk3, hr⟩
  have R4 := Lib.hid hr
  have B4 := Lib.hid (below_of_grown B3.out hg hs3 (Nat.le_refl _))
  have hs4 := Nat.le_trans hs3 hg.size
  clear hg hr
  go_wp2_with fail
  refine (drawexp_any _ _ _ _ _ R4.out (by omega) (by omega) (by omega)).mono ?_
  rintro e w5 ⟨v4, rfl, l4, u4, hg, k4, hk4, hr⟩
  have R5 := Lib.hid hr
  have B5 := Lib.hid (below_of_grown B4.out hg hs4 (Nat.le_refl _))
  have hs5 := Nat.le_trans hs4 hg.size
  clear hg hr
  go_wp2
  exact bodyPost_ret (v := .tuple #[.int .i64 v1, .int .i64 v2, .int .i64 v3, .int .i64 v4]) (by simp [results, Tryd.results22, go_sem]) rfl ⟨_, _, _, _, rfl, ⟨by omega, by omega⟩, ⟨by omega, by omega⟩, ⟨by omega, by omega⟩, ⟨by omega, by omega⟩, B5.out⟩

theorem drawTalksMany_any (s : Value) (w : World) (h : CodeIn w s) : Calls Tryd.prog 29 #[s] w (Draw4Post (-1) 4 w) := by
  go_enter Tryd.func29, Tryd.ntmps29
  go_wp2_with fail
  refine (open_any _ _ h).mono ?_
  rintro e w1 ⟨rfl, H1, hb1⟩
  have R1 := Lib.hid H1; clear H1
  have B1 := Lib.hid hb1
  have hs1 := hb1.size
  clear hb1 h
  go_wp2_with fail
  refine (drawgroup_any _ _ _ _ R1.out (by omega) (by omega) (by omega)).mono ?_
  rintro e w2 ⟨v1, rfl, l1, u1, hg, k1, hk1, hr⟩
  have R2 := Lib.hid hr
  have B2 := Lib.hid (below_of_grown B1.out hg hs1 (Nat.le_refl _))
  have hs2 := Nat.le_trans hs1 hg.size
  clear hg hr
  go_wp2_with fail
  refine (drawelem_any _ _ _ _ _ R2.out (by omega) (by omega) (by omega)).mono ?_
  rintro e w3 ⟨v2, rfl, l2, u2, hg, k2, hk2, hr⟩
  have R3 := Lib.hid hr
  have B3 := Lib.hid (below_of_grown B2.out hg hs2 (Nat.le_refl _))
  have hs3 := Nat.le_trans hs2 hg.size
  clear hg hr
  go_wp2_with fail
  refine (drawelem_any _ _ _ _ _ R3.out (by omega) (by omega) (by omega)).mono ?_
  rintro e w4 ⟨v3, rfl, l3, u3, hg, k3, hk3, hr⟩
  have R4 := Lib.hid hr
  have B4 := Lib.hid (below_of_grown B3.out hg hs3 (Nat.le_refl _))
  have hs4 := Nat.le_trans hs3 hg.size
  clear hg hr
  go_wp2_with fail
  refine (drawexp_any _ _ _ _ _ R4.out (by omega) (by omega) (by omega)).mono ?_
  rintro e w5 ⟨v4, rfl, l4, u4, hg, k4, hk4, hr⟩
  have R5 := Lib.hid hr
  have B5 := Lib.hid (below_of_grown B4.out hg hs4 (Nat.le_refl _))
  have hs5 := Nat.le_trans hs4 hg.size
  clear hg hr
  go_wp2
  exact bodyPost_ret (v := .tuple #[.int .i64 v1, .int .i64 v2, .int .i64 v3, .int .i64 v4]) (by simp [results, Tryd.results29, go_sem]) rfl ⟨_, _, _, _, rfl, ⟨by omega, by omega⟩, ⟨by omega, by omega⟩, ⟨by omega, by omega⟩, ⟨by omega, by omega⟩, B5.out⟩

theorem code_alloc {w : World} {s : Value} (h : CodeIn w s) (o : Obj) : CodeIn (w.alloc o) s := by
  rcases h with h | ⟨b, off, len, cap, z, e, g1, g2, g3, g4, g5, g6⟩
  · exact .inl h
  · exact .inr ⟨b, off, len, cap, z, e, g1, g2, g3, by simp; omega, fun j hj => (World.cell?_alloc_past _ _ _ g4).trans (g5 j hj), g6⟩

theorem drawTalkOk_any (s : Value) (w : World) (h : CodeIn w s) : Calls Tryd.prog 19 #[s] w (DrawTPost w) := by
  have X0 := Lib.hid (Box.new w 0 0 0)
  have H := Lib.hid (code_alloc h (.cells #[.int .i64 0, .int .i64 0, .int .i64 0] 33)); clear h
  go_enter Tryd.func19, Tryd.ntmps19
  go_wp2_with fail
  refine (open_any _ _ H.out).mono ?_
  rintro e w1 ⟨rfl, H1, hb1⟩
  have R1 := Lib.hid H1; clear H1
  have X1 := Lib.hid (X0.out.grown (grown_below (w.heap.size + 1) hb1) (by omega))
  have B1 := Lib.hid (box_end (by have := hb1; simpa using this))
  have hs1 := hb1.size
  simp at hs1
  clear hb1
  go_wp2_with fail
  rw [World.size_alloc] at *
  refine (drawtalk_any _ _ _ R1.out (by omega)).mono ?_
  rintro e w2 ⟨g, key, s', a, t, rfl, ⟨g1, g2⟩, ⟨s1, s2⟩, ⟨a1, a2⟩, ⟨t1, t2⟩, hg, k2, hk2, hr⟩
  have X2 := Lib.hid (X1.out.grown hg (by omega))
  have B2 := Lib.hid (below_of_grown B1.out hg (by omega) (by omega))
  clear hg hr
  obtain ⟨⟨c0, c1, c2⟩, f0, f1, f2⟩ := Box.cells X2.out
  go_wp2
  refine bodyPost_ret (v := .tuple #[.int .i64 g, .int .i64 key, .agg #[.int .i64 s', .int .i64 a, .int .i64 t]]) ?_ rfl ⟨_, _, _, _, _, rfl, ⟨g1, g2⟩, ⟨s1, s2⟩, ⟨a1, a2⟩, ⟨t1, t2⟩, ((B2.out.setCell (Nat.le_refl _) _).setCell (Nat.le_refl _) _).setCell (Nat.le_refl _) _⟩
  simp [results, Tryd.results19, go_sem, c0, c1, c2]

end Go.Proofs.YtacaeoalplggfaaDoor
