/- Plain mathematics of the laws of chapter 3: the first row alone, both sums, what a right talk has. -/
import Derived.Test.YtclihkcigppgjaaDoorSolQ
namespace Go.Proofs.YtclihkcigppgjaaDoor

theorem cl_first {g : Int} {rows : List (List Int)} {makes : List Int} (h : Cl g rows makes) : clB g [row rows 0] [nth makes 0] = true := by
  have h0 : 0 < rows.length := h.r1
  refine clB_true.2 ⟨h.g0, h.g4, by simp, by simp, rfl, h.u1, h.u2, fun j hj => ?_, allEl_yes fun j hj => ?_⟩
  · obtain rfl : j = 0 := by simp at hj; exact hj
    exact ⟨rfl, (h.row 0 h0).2⟩
  · obtain rfl : j = 0 := by simp at hj; exact hj
    exact allEl_at h.makes (by rw [h.m]; exact h0)
theorem cl_none (g : Int) : clB g [] [] = false := clB_false fun h => by have := h.r1; simp at this

/-- Twice the first k exponents, by the order. -/
def twTo (g : Int) (es : List Int) : Nat → List Int
  | 0 => []
  | k + 1 => twTo g es k ++ [2 * nth es k % ord g]
theorem twTo_succ (g : Int) (es : List Int) (k : Nat) : twTo g es (k + 1) = twTo g es k ++ [2 * nth es k % ord g] := rfl
theorem twTo_len (g : Int) (es : List Int) : ∀ k, (twTo g es k).length = k
  | 0 => rfl
  | k + 1 => by rw [twTo_succ, List.length_append, twTo_len g es k]; rfl
theorem twTo_nth (g : Int) (es : List Int) : ∀ n k, k < n → nth (twTo g es n) k = 2 * nth es k % ord g
  | 0, k, h => by omega
  | n + 1, k, h => by
    rw [twTo_succ, nth_app, twTo_len]
    by_cases e : k < n
    · rw [if_pos e]; exact twTo_nth g es n k e
    · obtain rfl : k = n := by omega
      rw [if_neg e, if_pos rfl]
theorem tw_lot {g : Int} {rows : List (List Int)} {makes es : List Int} (h : Lot g rows makes es) : Lot g rows makes (twTo g es es.length) :=
  ⟨h.cl, by rw [twTo_len]; exact h.len, allEx_yes fun j hj => by
    rw [twTo_len] at hj
    rw [twTo_nth g es _ j hj]
    exact ex_of_mod h.cl.g0 h.cl.g4 _⟩
theorem tw_make {g : Int} {rows : List (List Int)} {makes es : List Int} (h : Lot g rows makes es) {k : Nat} (hk : k < rows.length) :
    nth (mkAll g rows (twTo g es es.length)) k = tim g (nth (mkAll g rows es) k) (nth (mkAll g rows es) k) := by
  rw [(tw_lot h).mk_nth hk, h.mk_nth hk, tim_gp h.cl.g0 h.cl.g4]
  refine (gp_cg h.cl.g0 h.cl.g4).2 ?_
  have hl := twTo_len g es es.length
  have := dotR_lin (g := g) (rows := rows) (k := k) (q := ord g) (c := 1) (es := es) (fs := es) (hs := twTo g es es.length) hl.symm hl.symm fun j hj => by
    rw [hl] at hj
    rw [twTo_nth g es _ j hj]
    exact (Cg.rem _ _).trans ⟨0, by grind⟩
  exact this.trans ⟨0, by grind⟩
theorem made_wok {g : Int} {rows : List (List Int)} {makes : List Int} {ask : Int} {tells : List Int} (hl : Lot g rows makes tells) (ha : exB g ask = true) : wokB g rows makes (saysUp g rows makes ask tells) ask tells = true := by
  rw [wok_made hl ha, sameB_refl]
end Go.Proofs.YtclihkcigppgjaaDoor
