/- impl: elementsOk, exponentsOk, ClaimOk, lotOk, slices.Equal. -/
import Derived.Test.YtljekapbcphdaaaDoorBRd
namespace Go.Proofs.YtljekapbcphdaaaDoor
open Go.RowKit

theorem iel_l (g a : Int) (w : World) (G : Gr w) : Calls Tryd.prog 31 #[.int .i64 g, .int .i64 a] w fun e w' => e = .returned (.bool (elB g a)) ∧ Below w.heap.size w w' := (iel_any g a w G).mono fun _ _ ⟨he, m, hw⟩ => ⟨he, by rw [hw]; exact below_drewN (Below.refl _ _) m⟩
theorem iex_l (g n : Int) (w : World) (G : Gr w) : Calls Tryd.prog 44 #[.int .i64 g, .int .i64 n] w fun e w' => e = .returned (.bool (exB g n)) ∧ Below w.heap.size w w' := (iex_any g n w G).mono fun _ _ ⟨he, hw⟩ => ⟨he, by rw [← hw]; exact Below.refl _ _⟩
theorem ipow_l (g a n : Int) (w : World) (G : Gr w) : Calls Tryd.prog 46 #[.int .i64 g, .int .i64 a, .int .i64 n] w fun e w' => e = .returned (.int .i64 (gpow g a n)) ∧ Below w.heap.size w w' := (ipow_any g a n w G).mono fun _ _ ⟨he, m, hw⟩ => ⟨he, by rw [hw]; exact below_drewN (Below.refl _ _) m⟩
theorem itim_l (g a b : Int) (w : World) (G : Gr w) : Calls Tryd.prog 45 #[.int .i64 g, .int .i64 a, .int .i64 b] w fun e w' => e = .returned (.int .i64 (tim g a b)) ∧ Below w.heap.size w w' := (itim_any g a b w G).mono fun _ _ ⟨he, m, hw⟩ => ⟨he, by rw [hw]; exact below_drewN (Below.refl _ _) m⟩
theorem irem_l (n q : Int) (w : World) (h1 : -9999 ≤ n) (h2 : n ≤ 9999) (q1 : 1 ≤ q) (q2 : q ≤ 100) : Calls Tryd.prog 69 #[.int .i64 n, .int .i64 q] w fun e w' => e = .returned (.int .i64 (n % q)) ∧ Below w.heap.size w w' := (irem_any n q w h1 h2 q1 q2).mono fun _ _ ⟨he, hw⟩ => ⟨he, by rw [← hw]; exact Below.refl _ _⟩
theorem iback_l (g n : Int) (w : World) (G : Gr w) : Calls Tryd.prog 70 #[.int .i64 g, .int .i64 n] w fun e w' => e = .returned (.int .i64 (gback g n)) ∧ Below w.heap.size w w' := (iback_any g n w G).mono fun _ _ ⟨he, hw⟩ => ⟨he, by rw [← hw]; exact Below.refl _ _⟩

/-- The lists of a relation in memory. -/
structure Cw (w : World) (rv mv : Value) (rows : List (List Int)) (makes : List Int) : Prop where
  rows : IntSS w rv rows
  makes : Ints w mv makes
theorem Cw.on {w w' : World} {rv mv : Value} {rows : List (List Int)} {makes : List Int} (h : Cw w rv mv rows makes) (hb : Below w.heap.size w w') : Cw w' rv mv rows makes := ⟨h.rows.on hb, h.makes.below hb⟩
abbrev clV (g : Int) (rv mv : Value) : Value := .agg #[.int .i64 g, rv, mv]

/-- Rows of the same length as the first one, of elements, so far. -/
def RowsTo (g : Int) (rows : List (List Int)) (k : Nat) : Prop := ∀ j, j < k → (row rows j).length = unk rows ∧ allEl g (row rows j) = true

end Go.Proofs.YtljekapbcphdaaaDoor
