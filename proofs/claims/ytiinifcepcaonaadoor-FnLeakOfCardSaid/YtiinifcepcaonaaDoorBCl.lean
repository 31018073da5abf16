/- ClI, ClJ, MkI, in one text. -/
import Derived.Test.YtiinifcepcaonaaDoorBRd
import Derived.Test.YtiinifcepcaonaaDoorBTalk
/- impl: elementsOk, exponentsOk, ClaimOk, lotOk, slices.Equal. -/
namespace Go.Proofs.YtiinifcepcaonaaDoor
open Go.RowKit

theorem iel_l (g a : Int) (w : World) (G : Gr w) : Calls Tryd.prog 32 #[.int .i64 g, .int .i64 a] w fun e w' => e = .returned (.bool (elB g a)) ∧ Below w.heap.size w w' := (iel_any g a w G).mono fun _ _ ⟨he, m, hw⟩ => ⟨he, by rw [hw]; exact below_drewN (Below.refl _ _) m⟩
theorem iex_l (g n : Int) (w : World) (G : Gr w) : Calls Tryd.prog 56 #[.int .i64 g, .int .i64 n] w fun e w' => e = .returned (.bool (exB g n)) ∧ Below w.heap.size w w' := (iex_any g n w G).mono fun _ _ ⟨he, hw⟩ => ⟨he, by rw [← hw]; exact Below.refl _ _⟩
theorem ipow_l (g a n : Int) (w : World) (G : Gr w) : Calls Tryd.prog 57 #[.int .i64 g, .int .i64 a, .int .i64 n] w fun e w' => e = .returned (.int .i64 (gpow g a n)) ∧ Below w.heap.size w w' := (ipow_any g a n w G).mono fun _ _ ⟨he, m, hw⟩ => ⟨he, by rw [hw]; exact below_drewN (Below.refl _ _) m⟩
theorem itim_l (g a b : Int) (w : World) (G : Gr w) : Calls Tryd.prog 71 #[.int .i64 g, .int .i64 a, .int .i64 b] w fun e w' => e = .returned (.int .i64 (tim g a b)) ∧ Below w.heap.size w w' := (itim_any g a b w G).mono fun _ _ ⟨he, m, hw⟩ => ⟨he, by rw [hw]; exact below_drewN (Below.refl _ _) m⟩
theorem irem_l (n q : Int) (w : World) (h1 : -9999 ≤ n) (h2 : n ≤ 9999) (q1 : 1 ≤ q) (q2 : q ≤ 100) : Calls Tryd.prog 72 #[.int .i64 n, .int .i64 q] w fun e w' => e = .returned (.int .i64 (n % q)) ∧ Below w.heap.size w w' := (irem_any n q w h1 h2 q1 q2).mono fun _ _ ⟨he, hw⟩ => ⟨he, by rw [← hw]; exact Below.refl _ _⟩
theorem iback_l (g n : Int) (w : World) (G : Gr w) : Calls Tryd.prog 83 #[.int .i64 g, .int .i64 n] w fun e w' => e = .returned (.int .i64 (gback g n)) ∧ Below w.heap.size w w' := (iback_any g n w G).mono fun _ _ ⟨he, hw⟩ => ⟨he, by rw [← hw]; exact Below.refl _ _⟩

/-- The lists of a relation in memory. -/
structure Cw (w : World) (rv mv : Value) (rows : List (List Int)) (makes : List Int) : Prop where
  rows : IntSS w rv rows
  makes : Ints w mv makes
theorem Cw.on {w w' : World} {rv mv : Value} {rows : List (List Int)} {makes : List Int} (h : Cw w rv mv rows makes) (hb : Below w.heap.size w w') : Cw w' rv mv rows makes := ⟨h.rows.on hb, h.makes.below hb⟩
abbrev clV (g : Int) (rv mv : Value) : Value := .agg #[.int .i64 g, rv, mv]

/-- Rows of the same length as the first one, of elements, so far. -/
def RowsTo (g : Int) (rows : List (List Int)) (k : Nat) : Prop := ∀ j, j < k → (row rows j).length = unk rows ∧ allEl g (row rows j) = true

end Go.Proofs.YtiinifcepcaonaaDoor

/- impl: lotOk, slices.Equal, RowsMake, Solves. -/
namespace Go.Proofs.YtiinifcepcaonaaDoor
open Go.RowKit

theorem Cw.row0 {w : World} {rv mv : Value} {g : Int} {rows : List (List Int)} {makes : List Int} (h : Cw w rv mv rows makes) (hc : Cl g rows makes) :
    ∃ G c a0 c0, rv = .slice (some ⟨G, 0, none⟩) rows.length c ∧ ∀ w', Below w.heap.size w w' → w'.cell? ⟨G, 0, none⟩ = some (.slice a0 (unk rows) c0) := by
  obtain ⟨a, c, rfl, k1⟩ := h.rows.opened
  obtain ⟨G, u, rfl, hl, hcell, hi⟩ := k1.get 0 hc.r1
  obtain ⟨a0, c0, rfl, _⟩ := hi.opened
  exact ⟨G, c, a0, c0, rfl, fun w' hb => (hb.cell (p := ⟨G, 0, none⟩) hl).trans hcell⟩

end Go.Proofs.YtiinifcepcaonaaDoor

/- impl.RowsMake. -/
namespace Go.Proofs.YtiinifcepcaonaaDoor
open Go.RowKit

theorem Lot.row_len {g : Int} {rows : List (List Int)} {makes es : List Int} (h : Lot g rows makes es) {k : Nat} (hk : k < rows.length) : (row rows k).length = es.length := by rw [(h.cl.row k hk).1, h.len]

end Go.Proofs.YtiinifcepcaonaaDoor
