/-
  NARROWER THAN 'FOR EVERY INPUT', by the rows' own cells (each row's printed sentence says how): FnExactAskerOk: laid · FnExactAskedBy: laid · FnExactHeardFrom: laid · FnExactKeptBy: laid.
  DERIVED. THE GIVEN ROWS OF THIS SEAT. 4 by the template 'for every input the law returns true; each argument reads behind the call as it read before'; 0 by the template 'total and deterministic' (their statements: YtlcegpmhlnilfaaDoorTotals.lean).
  GIVEN WITH THE SEED: the statements are not yours to turn. If you find one false, say at which input.
  Laid BY PROGRAM, IN A SANDBOX (cutbox-rows.mjs): the forced cells as the released guide's own fill.sh prints them over the translation b707fcf93e29a906… (all of the seat's roots in one cut). By AI agents, Wed Nov 11 2026. No macro, syntax, notation, axiom, sorry.
-/
import Derived.Test.YtlcegpmhlnilfaaDoorChecked
import GoSem.Claim
import GoSem.ClaimJoined
import GoSem.ClaimMapViews
import Derived.JoinedTies
import Derived.KernelRfl
namespace Go.Proofs.YtlcegpmhlnilfaaDoor
/- THE CELL 'sum', in the pinned program and in every row, IS THE sha256 OF THE DUMP (.gsa) THAT YtlcegpmhlnilfaaDoorProg.lean LOADS. Nothing in Lean hashes anything: it is a label: what it is worth is what the hold of that sum in a sandbox is worth. -/
noncomputable def Tryd.pinned : Pinned := { name := "ytlcegpmhlnilfaadoor", sum := "b707fcf93e29a90669514e77c37310d8da4afd196389e2bb4afbbc19b9517957", checked := Tryd.checked }
namespace Rows
def none {H : Type} : Left H := { results := [], args := [] }

/- WHAT THE LISTED PACKAGE-LEVEL VARIABLES READ AS WHEN THE CALL BEGINS. Each datum BY PROGRAM (the guide's laid-datum.mjs) off the statement by which the dump's own 'gosem.cut.vars' lays the variable. In a bare row this is a premise. The card (YtlcegpmhlnilfaaDoorCards.lean) ties it to the program's text. -/
def laid_loop_example_sigmaproofs_impl_groups {H : Type} : DataW H := .agg [.agg [.lit (.int .i64 7), .lit (.int .i64 3), .lit (.int .i64 2)], .agg [.lit (.int .i64 11), .lit (.int .i64 5), .lit (.int .i64 3)], .agg [.lit (.int .i64 23), .lit (.int .i64 11), .lit (.int .i64 2)], .agg [.lit (.int .i64 47), .lit (.int .i64 23), .lit (.int .i64 2)]]

/-- 'laws.FnExactAskerOk': WHATEVER THE INPUT: true; the input reads as it did. -/
def fnExactAskerOkSpec : ChangeSpec := { name := "fnExactAskerOk", vars := ["loop.example/sigmaproofs/impl.groups"], fn := fun _ => fun
  | [d1, d2, g1] => { results := [.lit (.bool true)], args := [d1, d2], vars := [g1] }
  | _ => none }
def fnExactAskerOkRow : OpenClaim := { program := "ytlcegpmhlnilfaadoor", sum := "b707fcf93e29a90669514e77c37310d8da4afd196389e2bb4afbbc19b9517957", func := "loop.example/sigmaproofs/laws.FnExactAskerOk", spec := "fnExactAskerOk", named := ["loop.example/sigmaproofs/impl.groups"], apart := false, laid := [("loop.example/sigmaproofs/impl.groups", laid_loop_example_sigmaproofs_impl_groups)] }
def FnExactAskerOkSaid : Prop := fnExactAskerOkRow.holds Tryd.pinned (OpenSpec.ofChange fnExactAskerOkSpec)

/-- ITS FALSE NEIGHBOUR: 'it returns false'. Refute it at one input. -/
def fnExactAskerOkWrong : ChangeSpec := { name := "fnExactAskerOk", vars := ["loop.example/sigmaproofs/impl.groups"], fn := fun _ => fun
  | [d1, d2, g1] => { results := [.lit (.bool false)], args := [d1, d2], vars := [g1] }
  | _ => none }
def FnExactAskerOkWrongFalsely : Prop := fnExactAskerOkRow.holds Tryd.pinned (OpenSpec.ofChange fnExactAskerOkWrong)

/-- 'laws.FnExactAskedBy': WHATEVER THE INPUT: true; the input reads as it did. -/
def fnExactAskedBySpec : ChangeSpec := { name := "fnExactAskedBy", vars := ["loop.example/sigmaproofs/impl.groups"], fn := fun _ => fun
  | [d1, d2, d3, g1] => { results := [.lit (.bool true)], args := [d1, d2, d3], vars := [g1] }
  | _ => none }
def fnExactAskedByRow : OpenClaim := { program := "ytlcegpmhlnilfaadoor", sum := "b707fcf93e29a90669514e77c37310d8da4afd196389e2bb4afbbc19b9517957", func := "loop.example/sigmaproofs/laws.FnExactAskedBy", spec := "fnExactAskedBy", named := ["loop.example/sigmaproofs/impl.groups"], apart := false, laid := [("loop.example/sigmaproofs/impl.groups", laid_loop_example_sigmaproofs_impl_groups)] }
def FnExactAskedBySaid : Prop := fnExactAskedByRow.holds Tryd.pinned (OpenSpec.ofChange fnExactAskedBySpec)

/-- ITS FALSE NEIGHBOUR: 'it returns false'. Refute it at one input. -/
def fnExactAskedByWrong : ChangeSpec := { name := "fnExactAskedBy", vars := ["loop.example/sigmaproofs/impl.groups"], fn := fun _ => fun
  | [d1, d2, d3, g1] => { results := [.lit (.bool false)], args := [d1, d2, d3], vars := [g1] }
  | _ => none }
def FnExactAskedByWrongFalsely : Prop := fnExactAskedByRow.holds Tryd.pinned (OpenSpec.ofChange fnExactAskedByWrong)

/-- 'laws.FnExactHeardFrom': WHATEVER THE INPUT: true; the input reads as it did. -/
def fnExactHeardFromSpec : ChangeSpec := { name := "fnExactHeardFrom", vars := ["loop.example/sigmaproofs/impl.groups"], fn := fun _ => fun
  | [d1, d2, d3, g1] => { results := [.lit (.bool true)], args := [d1, d2, d3], vars := [g1] }
  | _ => none }
def fnExactHeardFromRow : OpenClaim := { program := "ytlcegpmhlnilfaadoor", sum := "b707fcf93e29a90669514e77c37310d8da4afd196389e2bb4afbbc19b9517957", func := "loop.example/sigmaproofs/laws.FnExactHeardFrom", spec := "fnExactHeardFrom", unfollowed := true, recurses := true, named := ["loop.example/sigmaproofs/impl.groups"], apart := false, laid := [("loop.example/sigmaproofs/impl.groups", laid_loop_example_sigmaproofs_impl_groups)] }
def FnExactHeardFromSaid : Prop := fnExactHeardFromRow.holds Tryd.pinned (OpenSpec.ofChange fnExactHeardFromSpec)

/-- ITS FALSE NEIGHBOUR: 'it returns false'. Refute it at one input. -/
def fnExactHeardFromWrong : ChangeSpec := { name := "fnExactHeardFrom", vars := ["loop.example/sigmaproofs/impl.groups"], fn := fun _ => fun
  | [d1, d2, d3, g1] => { results := [.lit (.bool false)], args := [d1, d2, d3], vars := [g1] }
  | _ => none }
def FnExactHeardFromWrongFalsely : Prop := fnExactHeardFromRow.holds Tryd.pinned (OpenSpec.ofChange fnExactHeardFromWrong)

/-- 'laws.FnExactKeptBy': WHATEVER THE INPUT: true; the input reads as it did. -/
def fnExactKeptBySpec : ChangeSpec := { name := "fnExactKeptBy", vars := ["loop.example/sigmaproofs/impl.groups"], fn := fun _ => fun
  | [d1, d2, d3, g1] => { results := [.lit (.bool true)], args := [d1, d2, d3], vars := [g1] }
  | _ => none }
def fnExactKeptByRow : OpenClaim := { program := "ytlcegpmhlnilfaadoor", sum := "b707fcf93e29a90669514e77c37310d8da4afd196389e2bb4afbbc19b9517957", func := "loop.example/sigmaproofs/laws.FnExactKeptBy", spec := "fnExactKeptBy", unfollowed := true, recurses := true, named := ["loop.example/sigmaproofs/impl.groups"], apart := false, laid := [("loop.example/sigmaproofs/impl.groups", laid_loop_example_sigmaproofs_impl_groups)] }
def FnExactKeptBySaid : Prop := fnExactKeptByRow.holds Tryd.pinned (OpenSpec.ofChange fnExactKeptBySpec)

/-- ITS FALSE NEIGHBOUR: 'it returns false'. Refute it at one input. -/
def fnExactKeptByWrong : ChangeSpec := { name := "fnExactKeptBy", vars := ["loop.example/sigmaproofs/impl.groups"], fn := fun _ => fun
  | [d1, d2, d3, g1] => { results := [.lit (.bool false)], args := [d1, d2, d3], vars := [g1] }
  | _ => none }
def FnExactKeptByWrongFalsely : Prop := fnExactKeptByRow.holds Tryd.pinned (OpenSpec.ofChange fnExactKeptByWrong)

/- THE SECOND FORM. 'bulk': how many values and letters a reading holds, each counted each time it is reached (what is shared counts as often as it is met; a slice's spare places count too). A statement '..UptoSaid' is the law's where the arguments, and the package variables that the reading takes, are together of bulk at most 1048576: NARROWER than '..Said'. Prove '..Said' where nothing that the law and all that it calls make is longer than what came in: it says more and counts as full. Else prove '..UptoSaid'. A law counts once. -/
mutual
def uptoBulk {H : Type} : DataW H → Nat
  | .lit (.string bytes) => bytes.length + 1
  | .lit _ => 1
  | .nil => 1
  | .ptr d => uptoBulk d + 1
  | .slice elems spare => uptoBulkAll elems + uptoBulkAll spare + 1
  | .agg parts => uptoBulkAll parts + 1
  | .iface _ d => uptoBulk d + 1
  | .map entries => uptoBulkEntries entries + 1
  | .held _ => 1
def uptoBulkAll {H : Type} : List (DataW H) → Nat
  | [] => 0
  | d :: r => uptoBulk d + uptoBulkAll r
def uptoBulkEntries {H : Type} : List (Lit × DataW H) → Nat
  | [] => 0
  | x :: r => uptoBulkEntry x + uptoBulkEntries r
def uptoBulkEntry {H : Type} : Lit × DataW H → Nat
  | (.string bytes, d) => bytes.length + uptoBulk d + 1
  | (_, d) => uptoBulk d + 1
 end
def uptoSmall : (H : Type) → List (DataW H) → Bool := fun _ ds => decide (uptoBulkAll ds ≤ 1048576)
def OpenSpec.upto (s : _root_.Go.ChangeSpec) : _root_.Go.OpenSpec := { _root_.Go.OpenSpec.ofChange s with cond := some uptoSmall }

/-- 'laws.FnExactAskerOk', WHERE WHAT IT READS IS OF BULK AT MOST 1048576: true; the input reads as it did. -/
def fnExactAskerOkUptoRow : OpenClaim := { program := "ytlcegpmhlnilfaadoor", sum := "b707fcf93e29a90669514e77c37310d8da4afd196389e2bb4afbbc19b9517957", func := "loop.example/sigmaproofs/laws.FnExactAskerOk", spec := "fnExactAskerOk", named := ["loop.example/sigmaproofs/impl.groups"], apart := false, laid := [("loop.example/sigmaproofs/impl.groups", laid_loop_example_sigmaproofs_impl_groups)], narrowed := true }
def FnExactAskerOkUptoSaid : Prop := fnExactAskerOkUptoRow.holds Tryd.pinned (OpenSpec.upto fnExactAskerOkSpec)

/-- 'laws.FnExactAskedBy', WHERE WHAT IT READS IS OF BULK AT MOST 1048576: true; the input reads as it did. -/
def fnExactAskedByUptoRow : OpenClaim := { program := "ytlcegpmhlnilfaadoor", sum := "b707fcf93e29a90669514e77c37310d8da4afd196389e2bb4afbbc19b9517957", func := "loop.example/sigmaproofs/laws.FnExactAskedBy", spec := "fnExactAskedBy", named := ["loop.example/sigmaproofs/impl.groups"], apart := false, laid := [("loop.example/sigmaproofs/impl.groups", laid_loop_example_sigmaproofs_impl_groups)], narrowed := true }
def FnExactAskedByUptoSaid : Prop := fnExactAskedByUptoRow.holds Tryd.pinned (OpenSpec.upto fnExactAskedBySpec)

/-- 'laws.FnExactHeardFrom', WHERE WHAT IT READS IS OF BULK AT MOST 1048576: true; the input reads as it did. -/
def fnExactHeardFromUptoRow : OpenClaim := { program := "ytlcegpmhlnilfaadoor", sum := "b707fcf93e29a90669514e77c37310d8da4afd196389e2bb4afbbc19b9517957", func := "loop.example/sigmaproofs/laws.FnExactHeardFrom", spec := "fnExactHeardFrom", unfollowed := true, recurses := true, named := ["loop.example/sigmaproofs/impl.groups"], apart := false, laid := [("loop.example/sigmaproofs/impl.groups", laid_loop_example_sigmaproofs_impl_groups)], narrowed := true }
def FnExactHeardFromUptoSaid : Prop := fnExactHeardFromUptoRow.holds Tryd.pinned (OpenSpec.upto fnExactHeardFromSpec)

/-- 'laws.FnExactKeptBy', WHERE WHAT IT READS IS OF BULK AT MOST 1048576: true; the input reads as it did. -/
def fnExactKeptByUptoRow : OpenClaim := { program := "ytlcegpmhlnilfaadoor", sum := "b707fcf93e29a90669514e77c37310d8da4afd196389e2bb4afbbc19b9517957", func := "loop.example/sigmaproofs/laws.FnExactKeptBy", spec := "fnExactKeptBy", unfollowed := true, recurses := true, named := ["loop.example/sigmaproofs/impl.groups"], apart := false, laid := [("loop.example/sigmaproofs/impl.groups", laid_loop_example_sigmaproofs_impl_groups)], narrowed := true }
def FnExactKeptByUptoSaid : Prop := fnExactKeptByUptoRow.holds Tryd.pinned (OpenSpec.upto fnExactKeptBySpec)

end Rows
end Go.Proofs.YtlcegpmhlnilfaaDoor
