/- Rows that list tables of the library beside impl.groups (the list's last): what they give the walks. -/
import Derived.Test.YtacaeoalplggfacDoorLiftTalk
namespace Go.Proofs.YtacaeoalplggfacDoor
open Go.ChangeShapes Go.WideShapes Go.ChangeAt Go.RowKit

theorem laidVars_last {P : Program} {W : World} {x : String × DataW Unit} : ∀ {l : List (String × DataW Unit)} {ps : List MemPlace}, DataW.LaidVars P W (l ++ [x]) ps → ∃ ps', DataW.LaidVars P W [x] ps'
  | [], ps, h => ⟨ps, h⟩
  | _ :: _, _, ⟨_, _, _, _, _, _, _, _, _, _, h, _⟩ => laidVars_last h
abbrev laid4 : List (String × DataW Unit) := [("math/bits.deBruijn32tab", Rows.laid_math_bits_deBruijn32tab), ("math/bits.deBruijn64tab", Rows.laid_math_bits_deBruijn64tab), ("internal/strconv.uint64pow10", Rows.laid_internal_strconv_uint64pow10), ("loop.example/sigmaproofs/impl.groups", Rows.laid_loop_example_sigmaproofs_impl_groups)]
theorem cells_of_laid4 {W : World} (h : laidMetH Tryd.prog laid4 W) : W.var? Tryd.prog "loop.example/sigmaproofs/impl.groups" = some cells12 := by
  rw [MakeChecks.laidMetH_plain _ _ _ (by kernel_rfl)] at h
  obtain ⟨ps, h, _⟩ := h
  obtain ⟨ps', h'⟩ := laidVars_last (l := [("math/bits.deBruijn32tab", Rows.laid_math_bits_deBruijn32tab), ("math/bits.deBruijn64tab", Rows.laid_math_bits_deBruijn64tab), ("internal/strconv.uint64pow10", Rows.laid_internal_strconv_uint64pow10)]) h
  exact cells_of_vars h'
set_option maxRecDepth 100000 in
theorem door_met4 (os : Os) (args : Array Value) : laidMetH Tryd.prog laid4 ((World.doorLaid Tryd.prog 400 os).forCall (fun _ _ => 0) ⟨#[], args, []⟩).memory :=
  laidMetH_of_parts3 (fuel := 8) (laidMet_of_run' 8 (by kernel_rfl) (by kernel_rfl)) (by kernel_rfl) (by kernel_rfl)
theorem vars_open4 {H : Type} {enc : TypeId × Value → H} {W : World} {gs : List (DataW H)} {q : List MemPlace} (hL : laidMetH Tryd.prog laid4 W) (hV : DataW.TrodVars enc Tryd.prog W (fun _ => true) ["loop.example/sigmaproofs/impl.groups"] gs q) :
    W.var? Tryd.prog "loop.example/sigmaproofs/impl.groups" = some cells12 ∧ gs = [Rows.laid_loop_example_sigmaproofs_impl_groups] :=
  vars_opened (cells_of_laid4 hL) hV

end Go.Proofs.YtacaeoalplggfacDoor
