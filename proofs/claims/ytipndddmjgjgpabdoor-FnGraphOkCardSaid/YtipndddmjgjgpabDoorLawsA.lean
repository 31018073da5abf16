/- The laws of chapter 1 that hold no list, walked: each answers true, and writes nothing that was there. -/
import Derived.Test.YtipndddmjgjgpabDoorBPure
import Derived.Test.YtipndddmjgjgpabDoorBWalk
import Derived.Test.YtipndddmjgjgpabDoorBDraw
namespace Go.Proofs.YtipndddmjgjgpabDoor
open Go.RowKit

theorem CodeIn.slice {w : World} {s : Value} (h : CodeIn w s) : ∃ a len cap, s = .slice a len cap := by
  rcases h with ⟨a, cap, rfl⟩ | ⟨b, off, len, cap, z, rfl, _⟩
  · exact ⟨_, _, _, rfl⟩
  · exact ⟨_, _, _, rfl⟩

theorem Ints.slice {w : World} {v : Value} {xs : List Int} (h : Ints w v xs) : ∃ a c, v = .slice a xs.length c := by
  rcases h with ⟨rfl, rfl⟩ | ⟨g, cap, rfl, _⟩
  · exact ⟨_, _, rfl⟩
  · exact ⟨_, _, rfl⟩
theorem Ints.at' {w : World} {v : Value} {xs : List Int} (h : Ints w v xs) {i : Nat} (hi : i < xs.length) : ∃ b c, v = .slice (some ⟨b, 0, none⟩) xs.length c ∧ w.cell? ⟨b, i, none⟩ = some (.int .i64 (nth xs i)) := by
  rcases h with ⟨rfl, rfl⟩ | ⟨g, cap, rfl, _, _, hc⟩
  · simp at hi
  · exact ⟨_, _, rfl, hc i hi⟩
theorem els_fit (g : Int) : (els g).length ≤ maxLen := by have := @els_len g; unfold maxLen; omega

theorem alive_any (w : World) (G : Gr w) : Calls Tryd.prog 17 #[] w fun e w' => e = .returned (.bool true) ∧ w = w' := by
  have p := Lib.hid (show prm 0 = 7 from rfl)
  have q := Lib.hid (show ord 0 = 3 from rfl)
  have G0 := Lib.hid G; clear G
  go_enter Tryd.func17, Tryd.ntmps17
  go_wp2_with fail
  refine (iprm_any _ _ G0.out).mono ?_
  rintro e w1_ ⟨rfl, rfl⟩
  rw [p.out]
  go_wp2_with fail
  refine (iord_any _ _ G0.out).mono ?_
  rintro e w1_ ⟨rfl, rfl⟩
  rw [q.out]
  go_wp2
  go_ret
  exact ⟨rfl, rfl⟩

end Go.Proofs.YtipndddmjgjgpabDoor
