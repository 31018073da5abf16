/- The laws' own helpers of chapter 3: sameRows, sameWords, rest; what a law of chapter 3 has at hand. -/
import Derived.Test.YtacalanlepjljaaDoorLawsA
import Derived.Test.YtacalanlepjljaaDoorBRd
import Derived.Test.YtacalanlepjljaaDoorClI
namespace Go.Proofs.YtacalanlepjljaaDoor
open Go.RowKit

theorem same_b (v u : Value) (xs ys : List Int) (w : World) (h : Ints w v xs) (h' : Ints w u ys) : Calls Tryd.prog 34 #[v, u] w fun e w' => e = .returned (.bool (sameB xs ys)) ∧ Below w.heap.size w w' :=
  (same_any v u xs ys w h h').mono fun _ _ ⟨he, _, hw⟩ => ⟨he, below_of_drew hw⟩
theorem same_same (v u : Value) (xs : List Int) (w : World) (h : Ints w v xs) (h' : Ints w u xs) : Calls Tryd.prog 34 #[v, u] w fun e w' => e = .returned (.bool true) ∧ ∃ m, w' = w.drewN m := by
  have c := same_any v u xs xs w h h'
  rwa [sameB_refl] at c
theorem same_eq (v u : Value) (xs : List Int) (w : World) (h : Ints w v xs) (h' : Ints w u xs) : Calls Tryd.prog 34 #[v, u] w fun e w' => e = .returned (.bool true) ∧ Below w.heap.size w w' :=
  (same_same v u xs w h h').mono fun _ _ ⟨he, _, hw⟩ => ⟨he, below_of_drew hw⟩
theorem ints_drewN {w : World} {v : Value} {xs : List Int} (h : Ints w v xs) (m : Nat) : Ints (w.drewN m) v xs := h
/-- A relation and lists that can be read behind world v, the groups too. -/
structure Lw (v : World) (g : Int) (rv mv : Value) (rows : List (List Int)) (makes : List Int) : Prop where
  gr : Gr v
  cw : Cw v rv mv rows makes
theorem Lw.on {v v' : World} {g : Int} {rv mv : Value} {rows : List (List Int)} {makes : List Int} (h : Lw v g rv mv rows makes) (hb : Below v.heap.size v v') : Lw v' g rv mv rows makes := ⟨h.gr.on hb, h.cw.on hb⟩
end Go.Proofs.YtacalanlepjljaaDoor
