/- What a bare row's proof needs (a seat without doors): the program's head; lists of numbers and lists of lists that came in as arguments. -/
import Derived.Test.YtiinifcepcaonaaRows
import Derived.Test.YtiinifcepcaonaaBRd
import Derived.ProofKit
import Derived.OpenShut
import Derived.ChangeOld
import Derived.Deep.Strs
import Derived.Deep.Matrix
namespace Go.Proofs.Ytiinifcepcaonaa
open Go.ChangeShapes Go.WideShapes Go.ChangeAt Go.RowKit

theorem own0 : ownKnob Try.prog.godebug = none := by kernel_rfl
theorem laidOut : laidOutB Try.prog = true := by kernel_rfl
theorem cInt : Try.prog.cellsOf 3 = 1 := by kernel_rfl
theorem take_nth {zs : List Int} {n : Nat} (hl : n ≤ zs.length) : (zs.take n).length = n ∧ ∀ j, j < n → nth (zs.take n) j = zs.getD j 0 := by
  refine ⟨by simp; omega, fun j hj => ?_⟩
  unfold nth
  rw [List.getD_eq_getElem?_getD, List.getD_eq_getElem?_getD, List.getElem?_take, if_pos hj]
end Go.Proofs.Ytiinifcepcaonaa
