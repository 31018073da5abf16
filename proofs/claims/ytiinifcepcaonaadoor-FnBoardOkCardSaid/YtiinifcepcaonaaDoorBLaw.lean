/- LawsA, LawR, in one text. -/
import Derived.Test.YtiinifcepcaonaaDoorBPure
import Derived.Test.YtiinifcepcaonaaDoorBWalk
import Derived.Test.YtiinifcepcaonaaDoorBDraw
import Derived.Test.YtiinifcepcaonaaDoorBRd
import Derived.Test.YtiinifcepcaonaaDoorBCl
/- The laws of chapter 1 that hold no list, walked: each answers true, and writes nothing that was there. -/
namespace Go.Proofs.YtiinifcepcaonaaDoor
open Go.RowKit

theorem CodeIn.slice {w : World} {s : Value} (h : CodeIn w s) : ∃ a len cap, s = .slice a len cap := by
  rcases h with ⟨a, cap, rfl⟩ | ⟨b, off, len, cap, z, rfl, _⟩
  · exact ⟨_, _, _, rfl⟩
  · exact ⟨_, _, _, rfl⟩

theorem Ints.slice {w : World} {v : Value} {xs : List Int} (h : Ints w v xs) : ∃ a c, v = .slice a xs.length c := by
  rcases h with ⟨rfl, rfl⟩ | ⟨g, cap, rfl, _⟩
  · exact ⟨_, _, rfl⟩
  · exact ⟨_, _, rfl⟩
theorem Ints.at' {w : World} {v : Value} {xs : List Int} (h : Ints w v xs) {i : Nat} (hi : i < xs.length) : ∃ b c, v = .slice (some ⟨b, 0, none⟩) xs.length c ∧ w.cell? ⟨b, i, none⟩ = some (.int .i64 (nth xs i)) := by
  rcases h with ⟨rfl, rfl⟩ | ⟨g, cap, rfl, _, _, hc⟩
  · simp at hi
  · exact ⟨_, _, rfl, hc i hi⟩
theorem els_fit (g : Int) : (els g).length ≤ maxLen := by have := @els_len g; unfold maxLen; omega

theorem alive_any (w : World) (G : Gr w) : Calls Tryd.prog 24 #[] w fun e w' => e = .returned (.bool true) ∧ w = w' := by
  have p := Lib.hid (show prm 0 = 7 from rfl)
  have q := Lib.hid (show ord 0 = 3 from rfl)
  have G0 := Lib.hid G; clear G
  go_enter Tryd.func24, Tryd.ntmps24
  go_wp2_with fail
  refine (iprm_any _ _ G0.out).mono ?_
  rintro e w1_ ⟨rfl, rfl⟩
  rw [p.out]
  go_wp2_with fail
  refine (iord_any _ _ G0.out).mono ?_
  rintro e w1_ ⟨rfl, rfl⟩
  rw [q.out]
  go_wp2
  go_ret
  exact ⟨rfl, rfl⟩

end Go.Proofs.YtiinifcepcaonaaDoor

/- The laws' own helpers of chapter 3: sameRows, sameWords, rest; what a law of chapter 3 has at hand. -/
namespace Go.Proofs.YtiinifcepcaonaaDoor
open Go.RowKit

theorem same_b (v u : Value) (xs ys : List Int) (w : World) (h : Ints w v xs) (h' : Ints w u ys) : Calls Tryd.prog 31 #[v, u] w fun e w' => e = .returned (.bool (sameB xs ys)) ∧ Below w.heap.size w w' :=
  (same_any v u xs ys w h h').mono fun _ _ ⟨he, _, hw⟩ => ⟨he, below_of_drew hw⟩
theorem same_same (v u : Value) (xs : List Int) (w : World) (h : Ints w v xs) (h' : Ints w u xs) : Calls Tryd.prog 31 #[v, u] w fun e w' => e = .returned (.bool true) ∧ ∃ m, w' = w.drewN m := by
  have c := same_any v u xs xs w h h'
  rwa [sameB_refl] at c
theorem same_eq (v u : Value) (xs : List Int) (w : World) (h : Ints w v xs) (h' : Ints w u xs) : Calls Tryd.prog 31 #[v, u] w fun e w' => e = .returned (.bool true) ∧ Below w.heap.size w w' :=
  (same_same v u xs w h h').mono fun _ _ ⟨he, _, hw⟩ => ⟨he, below_of_drew hw⟩
theorem ints_drewN {w : World} {v : Value} {xs : List Int} (h : Ints w v xs) (m : Nat) : Ints (w.drewN m) v xs := h
/-- A relation and lists that can be read behind world v, the groups too. -/
structure Lw (v : World) (g : Int) (rv mv : Value) (rows : List (List Int)) (makes : List Int) : Prop where
  gr : Gr v
  cw : Cw v rv mv rows makes
theorem Lw.on {v v' : World} {g : Int} {rv mv : Value} {rows : List (List Int)} {makes : List Int} (h : Lw v g rv mv rows makes) (hb : Below v.heap.size v v') : Lw v' g rv mv rows makes := ⟨h.gr.on hb, h.cw.on hb⟩
end Go.Proofs.YtiinifcepcaonaaDoor
