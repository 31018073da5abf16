/- Rows that list the two sentinels of strconv, too. -/
import Derived.Test.YtacaeoalplggfacDoorLiftX
namespace Go.Proofs.YtacaeoalplggfacDoor
open Go.ChangeShapes Go.WideShapes Go.ChangeAt Go.RowKit

abbrev laid6 : List (String × DataW Unit) := [("math/bits.deBruijn32tab", Rows.laid_math_bits_deBruijn32tab), ("math/bits.deBruijn64tab", Rows.laid_math_bits_deBruijn64tab), ("internal/strconv.uint64pow10", Rows.laid_internal_strconv_uint64pow10), ("strconv.ErrRange", Rows.laid_strconv_ErrRange), ("strconv.ErrSyntax", Rows.laid_strconv_ErrSyntax), ("loop.example/sigmaproofs/impl.groups", Rows.laid_loop_example_sigmaproofs_impl_groups)]
theorem cells_of_laid6 {W : World} (h : laidMetH Tryd.prog laid6 W) : W.var? Tryd.prog "loop.example/sigmaproofs/impl.groups" = some cells12 := by
  rw [MakeChecks.laidMetH_plain _ _ _ (by kernel_rfl)] at h
  obtain ⟨ps, h, _⟩ := h
  obtain ⟨ps', h'⟩ := laidVars_last (l := [("math/bits.deBruijn32tab", Rows.laid_math_bits_deBruijn32tab), ("math/bits.deBruijn64tab", Rows.laid_math_bits_deBruijn64tab), ("internal/strconv.uint64pow10", Rows.laid_internal_strconv_uint64pow10), ("strconv.ErrRange", Rows.laid_strconv_ErrRange), ("strconv.ErrSyntax", Rows.laid_strconv_ErrSyntax)]) h
  exact cells_of_vars h'
set_option maxRecDepth 100000 in
theorem door_met6 (os : Os) (args : Array Value) : laidMetH Tryd.prog laid6 ((World.doorLaid Tryd.prog 400 os).forCall (fun _ _ => 0) ⟨#[], args, []⟩).memory :=
  laidMetH_of_parts3 (fuel := 8) (laidMet_of_run' 8 (by kernel_rfl) (by kernel_rfl)) (by kernel_rfl) (by kernel_rfl)
theorem vars_open6 {H : Type} {enc : TypeId × Value → H} {W : World} {gs : List (DataW H)} {q : List MemPlace} (hL : laidMetH Tryd.prog laid6 W) (hV : DataW.TrodVars enc Tryd.prog W (fun _ => true) ["loop.example/sigmaproofs/impl.groups"] gs q) :
    W.var? Tryd.prog "loop.example/sigmaproofs/impl.groups" = some cells12 ∧ gs = [Rows.laid_loop_example_sigmaproofs_impl_groups] :=
  vars_opened (cells_of_laid6 hL) hV


end Go.Proofs.YtacaeoalplggfacDoor
