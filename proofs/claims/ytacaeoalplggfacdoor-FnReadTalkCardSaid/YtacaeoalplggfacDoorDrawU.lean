/- The Draw functions of chapter 2 that give numbers and talks. -/
import Derived.Test.YtacaeoalplggfacDoorDrawC
import Derived.Test.YtacaeoalplggfacDoorDrawT2
namespace Go.Proofs.YtacaeoalplggfacDoor
open Go.RowKit

def Draw4Post (lo hi : Int) (w : World) (e : Ending) (w' : World) : Prop :=
  ∃ g a b c : Int, e = .returned (.tuple #[.int .i64 g, .int .i64 a, .int .i64 b, .int .i64 c]) ∧ (lo ≤ g ∧ g ≤ hi) ∧ (-10000 ≤ a ∧ a ≤ 10000) ∧ (-10000 ≤ b ∧ b ≤ 10000) ∧ (-10000 ≤ c ∧ c ≤ 10000) ∧ Below w.heap.size w w'
/-- A group, a key and a talk. -/
def DrawTPost (w : World) (e : Ending) (w' : World) : Prop :=
  ∃ g key s a t : Int, e = .returned (.tuple #[.int .i64 g, .int .i64 key, .agg #[.int .i64 s, .int .i64 a, .int .i64 t]]) ∧ (-1 ≤ g ∧ g ≤ 4) ∧ (-3 ≤ s ∧ s ≤ 47) ∧ (-1 ≤ a ∧ a ≤ 23) ∧ (0 ≤ t ∧ t ≤ 23) ∧ Below w.heap.size w w'
def DrawXPost (w : World) (e : Ending) (w' : World) : Prop :=
  ∃ g s a t : Int, e = .returned (.tuple #[.int .i64 g, .agg #[.int .i64 s, .int .i64 a, .int .i64 t]]) ∧ (-1 ≤ g ∧ g ≤ 4) ∧ (-3 ≤ s ∧ s ≤ 47) ∧ (-1 ≤ a ∧ a ≤ 23) ∧ (0 ≤ t ∧ t ≤ 23) ∧ Below w.heap.size w w'

theorem code_alloc {w : World} {s : Value} (h : CodeIn w s) (o : Obj) : CodeIn (w.alloc o) s := by
  rcases h with h | ⟨b, off, len, cap, z, e, g1, g2, g3, g4, g5, g6⟩
  · exact .inl h
  · exact .inr ⟨b, off, len, cap, z, e, g1, g2, g3, by simp; omega, fun j hj => (World.cell?_alloc_past _ _ _ g4).trans (g5 j hj), g6⟩

theorem drawTalkText_any (s : Value) (w : World) (h : CodeIn w s) : Calls Tryd.prog 9 #[s] w (DrawXPost w) := by
  have X0 := Lib.hid (Box.new w 0 0 0)
  have H := Lib.hid (code_alloc h (.cells #[.int .i64 0, .int .i64 0, .int .i64 0] 24)); clear h
  go_enter Tryd.func9, Tryd.ntmps9
  go_wp2_with fail
  refine (open_any _ _ H.out).mono ?_
  rintro e w1 ⟨rfl, H1, hb1⟩
  have R1 := Lib.hid H1; clear H1
  have X1 := Lib.hid (X0.out.grown (grown_below (w.heap.size + 1) hb1) (by omega))
  have B1 := Lib.hid (box_end (by have := hb1; simpa using this))
  have hs1 := hb1.size
  simp at hs1
  clear hb1
  go_wp2_with fail
  rw [World.size_alloc] at *
  refine (drawtalk_any _ _ _ R1.out (by omega)).mono ?_
  rintro e w2 ⟨g, key, s', a, t, rfl, ⟨g1, g2⟩, ⟨s1, s2⟩, ⟨a1, a2⟩, ⟨t1, t2⟩, hg, k2, hk2, hr⟩
  have X2 := Lib.hid (X1.out.grown hg (by omega))
  have B2 := Lib.hid (below_of_grown B1.out hg (by omega) (by omega))
  have hs2 := hg.size
  clear hg hr
  go_wp2_with fail
  have Y3 := Lib.hid (Box.new w2 s' a t)
  have X3 := Lib.hid (X2.out.alloc (.cells #[.int .i64 s', .int .i64 a, .int .i64 t] 24))
  obtain ⟨w3, hw3⟩ : ∃ w3, w3 = w2.alloc (.cells #[.int .i64 s', .int .i64 a, .int .i64 t] 24) := ⟨_, rfl⟩
  have B3 : Hid (Below w.heap.size w w3) := Lib.hid (by rw [hw3]; exact B2.out.alloc (by omega) _)
  rw [← hw3] at Y3 X3 ⊢
  clear hw3
  obtain ⟨⟨c0, c1, c2⟩, f0, f1, f2⟩ := Box.cells X3.out
  obtain ⟨⟨d0, d1, d2⟩, _⟩ := Box.cells Y3.out
  go_region
  all_goals
    go_wp2
    refine bodyPost_ret (v := .tuple #[.int .i64 g, .agg #[.int .i64 s', .int .i64 a, .int .i64 t]]) ?_ rfl ⟨_, _, _, _, rfl, ⟨g1, g2⟩, ⟨s1, s2⟩, ⟨a1, a2⟩, ⟨t1, t2⟩, ?_⟩
    · simp [results, Tryd.results9, go_sem, c0, c1, c2]
    · first | exact (((B3.out.setCell (Nat.le_refl _) _).setCell (Nat.le_refl _) _).setCell (Nat.le_refl _) _).drew | exact ((B3.out.drew.setCell (Nat.le_refl _) _).setCell (Nat.le_refl _) _).setCell (Nat.le_refl _) _

end Go.Proofs.YtacaeoalplggfacDoor
