/- The laws' own helpers of chapter 3: sameRows, sameWords, rest; what a law of chapter 3 has at hand. -/
import Derived.Test.YtclihkcigppgjaaDoorLawsA
import Derived.Test.YtclihkcigppgjaaDoorBRd
import Derived.Test.YtclihkcigppgjaaDoorClI
namespace Go.Proofs.YtclihkcigppgjaaDoor
open Go.RowKit

theorem same_b (v u : Value) (xs ys : List Int) (w : World) (h : Ints w v xs) (h' : Ints w u ys) : Calls Tryd.prog 19 #[v, u] w fun e w' => e = .returned (.bool (sameB xs ys)) ∧ Below w.heap.size w w' :=
  (same_any v u xs ys w h h').mono fun _ _ ⟨he, _, hw⟩ => ⟨he, below_of_drew hw⟩
theorem same_same (v u : Value) (xs : List Int) (w : World) (h : Ints w v xs) (h' : Ints w u xs) : Calls Tryd.prog 19 #[v, u] w fun e w' => e = .returned (.bool true) ∧ ∃ m, w' = w.drewN m := by
  have c := same_any v u xs xs w h h'
  rwa [sameB_refl] at c
theorem same_eq (v u : Value) (xs : List Int) (w : World) (h : Ints w v xs) (h' : Ints w u xs) : Calls Tryd.prog 19 #[v, u] w fun e w' => e = .returned (.bool true) ∧ Below w.heap.size w w' :=
  (same_same v u xs w h h').mono fun _ _ ⟨he, _, hw⟩ => ⟨he, below_of_drew hw⟩
theorem ints_drewN {w : World} {v : Value} {xs : List Int} (h : Ints w v xs) (m : Nat) : Ints (w.drewN m) v xs := h
theorem samew_any (q : Int) (sv tv sv' tv' : Value) (ss ss' ts : List Int) (w : World) (h1 : Ints w sv ss) (h2 : Ints w tv ts) (h3 : Ints w sv' ss') (h4 : Ints w tv' ts) :
    Calls Tryd.prog 14 #[.agg #[sv, .int .i64 q, tv], .agg #[sv', .int .i64 q, tv']] w fun e w' => e = .returned (.bool (sameB ss ss')) ∧ Below w.heap.size w w' := by
  have H1 := Lib.hid h1
  have H2 := Lib.hid h2
  have H3 := Lib.hid h3
  have H4 := Lib.hid h4
  have HB0 := Lib.hid (Below.on (below_grow w (.cells #[sv, .int .i64 q, tv] 28)) (below_grow _ (.cells #[sv', .int .i64 q, tv'] 28)))
  have hqq : (q == q) = true := by simp
  clear h1 h2 h3 h4
  cases hs : sameB ss ss'
  · go_enter Tryd.func14, Tryd.ntmps14
    go_wp2_with fail
    refine (same_any sv sv' ss ss' _ (H1.out.below HB0.out) (H3.out.below HB0.out)).mono ?_
    rintro e w1 ⟨rfl, m, hw1⟩
    rw [hs]
    obtain ⟨_, _, L1⟩ := boxes2 (below_of_drew hw1)
    have HB := Lib.hid L1
    clear L1 hw1
    go_wp2
    go_ret
    exact ⟨rfl, HB.out⟩
  · go_enter Tryd.func14, Tryd.ntmps14
    go_wp2_with fail
    refine (same_any sv sv' ss ss' _ (H1.out.below HB0.out) (H3.out.below HB0.out)).mono ?_
    rintro e w1 ⟨rfl, m, hw1⟩
    rw [hs]
    have hb1 := below_of_drew hw1
    obtain ⟨P1, R1, L1⟩ := boxes2 hb1
    have HB := Lib.hid L1
    have c0 := P1.cell 1
    have c1 := R1.cell 1
    have c2 := P1.cell 2
    have c3 := R1.cell 2
    simp at c0 c1 c2 c3
    clear P1 R1 L1 hb1 hw1
    go_wp2_with fail
    refine (same_same tv tv' ts _ (H2.out.below HB.out) (H4.out.below HB.out)).mono ?_
    rintro e w2 ⟨rfl, m2, hw2⟩
    have HB2 : Hid (Below w.heap.size w w2) := Lib.hid (by rw [hw2]; exact below_drewN HB.out m2)
    clear hw2
    go_wp2
    go_ret
    exact ⟨rfl, HB2.out⟩

/-- A relation and lists that can be read behind world v, the groups too. -/
structure Lw (v : World) (g : Int) (rv mv : Value) (rows : List (List Int)) (makes : List Int) : Prop where
  gr : Gr v
  cw : Cw v rv mv rows makes
theorem Lw.on {v v' : World} {g : Int} {rv mv : Value} {rows : List (List Int)} {makes : List Int} (h : Lw v g rv mv rows makes) (hb : Below v.heap.size v v') : Lw v' g rv mv rows makes := ⟨h.gr.on hb, h.cw.on hb⟩
end Go.Proofs.YtclihkcigppgjaaDoor
