/-
  NARROWER THAN 'FOR EVERY INPUT', by the rows' own cells (each row's printed sentence says how): FnClaimOk: laid · FnRowsMake: laid · FnSolves: laid · FnSolutionsOf: laid · FnWordsOf: laid · FnWordsOk: laid · FnWordsMade: laid · FnExponentsFrom: laid.
  DERIVED. THE GIVEN ROWS OF THIS SEAT. 8 by the template 'for every input the law returns true; each argument reads behind the call as it read before'; 0 by the template 'total and deterministic' (their statements: YtkcikhjobgackabDoorTotals.lean).
  GIVEN WITH THE SEED: the statements are not yours to turn. If you find one false, say at which input.
  Laid BY PROGRAM, IN A SANDBOX (cutbox-rows.mjs): the forced cells as the released guide's own fill.sh prints them over the translation 427a3c126e7528b0… (all of the seat's roots in one cut). By AI agents, Wed Nov 11 2026. No macro, syntax, notation, axiom, sorry.
-/
import Derived.Test.YtkcikhjobgackabDoorChecked
import GoSem.Claim
import GoSem.ClaimJoined
import GoSem.ClaimMapViews
import Derived.JoinedTies
import Derived.KernelRfl
namespace Go.Proofs.YtkcikhjobgackabDoor
/- THE CELL 'sum', in the pinned program and in every row, IS THE sha256 OF THE DUMP (.gsa) THAT YtkcikhjobgackabDoorProg.lean LOADS. Nothing in Lean hashes anything: it is a label: what it is worth is what the hold of that sum in a sandbox is worth. -/
noncomputable def Tryd.pinned : Pinned := { name := "ytkcikhjobgackabdoor", sum := "427a3c126e7528b06b1b68f4065187a72dc854385451ea3355ed9e050efe8a61", checked := Tryd.checked }
namespace Rows
def none {H : Type} : Left H := { results := [], args := [] }

/- WHAT THE LISTED PACKAGE-LEVEL VARIABLES READ AS WHEN THE CALL BEGINS. Each datum BY PROGRAM (the guide's laid-datum.mjs) off the statement by which the dump's own 'gosem.cut.vars' lays the variable. In a bare row this is a premise. The card (YtkcikhjobgackabDoorCards.lean) ties it to the program's text. -/
def laid_loop_example_sigmaproofs_impl_groups {H : Type} : DataW H := .agg [.agg [.lit (.int .i64 7), .lit (.int .i64 3), .lit (.int .i64 2)], .agg [.lit (.int .i64 11), .lit (.int .i64 5), .lit (.int .i64 3)], .agg [.lit (.int .i64 23), .lit (.int .i64 11), .lit (.int .i64 2)], .agg [.lit (.int .i64 47), .lit (.int .i64 23), .lit (.int .i64 2)]]

/-- 'laws.FnClaimOk': WHATEVER THE INPUT: true; the input reads as it did. -/
def fnClaimOkSpec : ChangeSpec := { name := "fnClaimOk", vars := ["loop.example/sigmaproofs/impl.groups"], fn := fun _ => fun
  | [d, g1] => { results := [.lit (.bool true)], args := [d], vars := [g1] }
  | _ => none }
def fnClaimOkRow : OpenClaim := { program := "ytkcikhjobgackabdoor", sum := "427a3c126e7528b06b1b68f4065187a72dc854385451ea3355ed9e050efe8a61", func := "loop.example/sigmaproofs/laws.FnClaimOk", spec := "fnClaimOk", named := ["loop.example/sigmaproofs/impl.groups"], apart := false, laid := [("loop.example/sigmaproofs/impl.groups", laid_loop_example_sigmaproofs_impl_groups)] }
def FnClaimOkSaid : Prop := fnClaimOkRow.holds Tryd.pinned (OpenSpec.ofChange fnClaimOkSpec)

/-- ITS FALSE NEIGHBOUR: 'it returns false'. Refute it at one input. -/
def fnClaimOkWrong : ChangeSpec := { name := "fnClaimOk", vars := ["loop.example/sigmaproofs/impl.groups"], fn := fun _ => fun
  | [d, g1] => { results := [.lit (.bool false)], args := [d], vars := [g1] }
  | _ => none }
def FnClaimOkWrongFalsely : Prop := fnClaimOkRow.holds Tryd.pinned (OpenSpec.ofChange fnClaimOkWrong)

/-- 'laws.FnRowsMake': WHATEVER THE INPUT: true; the input reads as it did. -/
def fnRowsMakeSpec : ChangeSpec := { name := "fnRowsMake", vars := ["loop.example/sigmaproofs/impl.groups"], fn := fun _ => fun
  | [d, g1] => { results := [.lit (.bool true)], args := [d], vars := [g1] }
  | _ => none }
def fnRowsMakeRow : OpenClaim := { program := "ytkcikhjobgackabdoor", sum := "427a3c126e7528b06b1b68f4065187a72dc854385451ea3355ed9e050efe8a61", func := "loop.example/sigmaproofs/laws.FnRowsMake", spec := "fnRowsMake", named := ["loop.example/sigmaproofs/impl.groups"], apart := false, laid := [("loop.example/sigmaproofs/impl.groups", laid_loop_example_sigmaproofs_impl_groups)] }
def FnRowsMakeSaid : Prop := fnRowsMakeRow.holds Tryd.pinned (OpenSpec.ofChange fnRowsMakeSpec)

/-- ITS FALSE NEIGHBOUR: 'it returns false'. Refute it at one input. -/
def fnRowsMakeWrong : ChangeSpec := { name := "fnRowsMake", vars := ["loop.example/sigmaproofs/impl.groups"], fn := fun _ => fun
  | [d, g1] => { results := [.lit (.bool false)], args := [d], vars := [g1] }
  | _ => none }
def FnRowsMakeWrongFalsely : Prop := fnRowsMakeRow.holds Tryd.pinned (OpenSpec.ofChange fnRowsMakeWrong)

/-- 'laws.FnSolves': WHATEVER THE INPUT: true; the input reads as it did. -/
def fnSolvesSpec : ChangeSpec := { name := "fnSolves", vars := ["loop.example/sigmaproofs/impl.groups"], fn := fun _ => fun
  | [d, g1] => { results := [.lit (.bool true)], args := [d], vars := [g1] }
  | _ => none }
def fnSolvesRow : OpenClaim := { program := "ytkcikhjobgackabdoor", sum := "427a3c126e7528b06b1b68f4065187a72dc854385451ea3355ed9e050efe8a61", func := "loop.example/sigmaproofs/laws.FnSolves", spec := "fnSolves", named := ["loop.example/sigmaproofs/impl.groups"], apart := false, laid := [("loop.example/sigmaproofs/impl.groups", laid_loop_example_sigmaproofs_impl_groups)] }
def FnSolvesSaid : Prop := fnSolvesRow.holds Tryd.pinned (OpenSpec.ofChange fnSolvesSpec)

/-- ITS FALSE NEIGHBOUR: 'it returns false'. Refute it at one input. -/
def fnSolvesWrong : ChangeSpec := { name := "fnSolves", vars := ["loop.example/sigmaproofs/impl.groups"], fn := fun _ => fun
  | [d, g1] => { results := [.lit (.bool false)], args := [d], vars := [g1] }
  | _ => none }
def FnSolvesWrongFalsely : Prop := fnSolvesRow.holds Tryd.pinned (OpenSpec.ofChange fnSolvesWrong)

/-- 'laws.FnSolutionsOf': WHATEVER THE INPUT: true; the input reads as it did. -/
def fnSolutionsOfSpec : ChangeSpec := { name := "fnSolutionsOf", vars := ["loop.example/sigmaproofs/impl.groups"], fn := fun _ => fun
  | [d, g1] => { results := [.lit (.bool true)], args := [d], vars := [g1] }
  | _ => none }
def fnSolutionsOfRow : OpenClaim := { program := "ytkcikhjobgackabdoor", sum := "427a3c126e7528b06b1b68f4065187a72dc854385451ea3355ed9e050efe8a61", func := "loop.example/sigmaproofs/laws.FnSolutionsOf", spec := "fnSolutionsOf", named := ["loop.example/sigmaproofs/impl.groups"], apart := false, laid := [("loop.example/sigmaproofs/impl.groups", laid_loop_example_sigmaproofs_impl_groups)] }
def FnSolutionsOfSaid : Prop := fnSolutionsOfRow.holds Tryd.pinned (OpenSpec.ofChange fnSolutionsOfSpec)

/-- ITS FALSE NEIGHBOUR: 'it returns false'. Refute it at one input. -/
def fnSolutionsOfWrong : ChangeSpec := { name := "fnSolutionsOf", vars := ["loop.example/sigmaproofs/impl.groups"], fn := fun _ => fun
  | [d, g1] => { results := [.lit (.bool false)], args := [d], vars := [g1] }
  | _ => none }
def FnSolutionsOfWrongFalsely : Prop := fnSolutionsOfRow.holds Tryd.pinned (OpenSpec.ofChange fnSolutionsOfWrong)

/-- 'laws.FnWordsOf': WHATEVER THE INPUT: true; the input reads as it did. -/
def fnWordsOfSpec : ChangeSpec := { name := "fnWordsOf", vars := ["loop.example/sigmaproofs/impl.groups"], fn := fun _ => fun
  | [d, g1] => { results := [.lit (.bool true)], args := [d], vars := [g1] }
  | _ => none }
def fnWordsOfRow : OpenClaim := { program := "ytkcikhjobgackabdoor", sum := "427a3c126e7528b06b1b68f4065187a72dc854385451ea3355ed9e050efe8a61", func := "loop.example/sigmaproofs/laws.FnWordsOf", spec := "fnWordsOf", named := ["loop.example/sigmaproofs/impl.groups"], apart := false, laid := [("loop.example/sigmaproofs/impl.groups", laid_loop_example_sigmaproofs_impl_groups)] }
def FnWordsOfSaid : Prop := fnWordsOfRow.holds Tryd.pinned (OpenSpec.ofChange fnWordsOfSpec)

/-- ITS FALSE NEIGHBOUR: 'it returns false'. Refute it at one input. -/
def fnWordsOfWrong : ChangeSpec := { name := "fnWordsOf", vars := ["loop.example/sigmaproofs/impl.groups"], fn := fun _ => fun
  | [d, g1] => { results := [.lit (.bool false)], args := [d], vars := [g1] }
  | _ => none }
def FnWordsOfWrongFalsely : Prop := fnWordsOfRow.holds Tryd.pinned (OpenSpec.ofChange fnWordsOfWrong)

/-- 'laws.FnWordsOk': WHATEVER THE INPUT: true; the input reads as it did. -/
def fnWordsOkSpec : ChangeSpec := { name := "fnWordsOk", vars := ["loop.example/sigmaproofs/impl.groups"], fn := fun _ => fun
  | [d, g1] => { results := [.lit (.bool true)], args := [d], vars := [g1] }
  | _ => none }
def fnWordsOkRow : OpenClaim := { program := "ytkcikhjobgackabdoor", sum := "427a3c126e7528b06b1b68f4065187a72dc854385451ea3355ed9e050efe8a61", func := "loop.example/sigmaproofs/laws.FnWordsOk", spec := "fnWordsOk", named := ["loop.example/sigmaproofs/impl.groups"], apart := false, laid := [("loop.example/sigmaproofs/impl.groups", laid_loop_example_sigmaproofs_impl_groups)] }
def FnWordsOkSaid : Prop := fnWordsOkRow.holds Tryd.pinned (OpenSpec.ofChange fnWordsOkSpec)

/-- ITS FALSE NEIGHBOUR: 'it returns false'. Refute it at one input. -/
def fnWordsOkWrong : ChangeSpec := { name := "fnWordsOk", vars := ["loop.example/sigmaproofs/impl.groups"], fn := fun _ => fun
  | [d, g1] => { results := [.lit (.bool false)], args := [d], vars := [g1] }
  | _ => none }
def FnWordsOkWrongFalsely : Prop := fnWordsOkRow.holds Tryd.pinned (OpenSpec.ofChange fnWordsOkWrong)

/-- 'laws.FnWordsMade': WHATEVER THE INPUT: true; the input reads as it did. -/
def fnWordsMadeSpec : ChangeSpec := { name := "fnWordsMade", vars := ["loop.example/sigmaproofs/impl.groups"], fn := fun _ => fun
  | [d, g1] => { results := [.lit (.bool true)], args := [d], vars := [g1] }
  | _ => none }
def fnWordsMadeRow : OpenClaim := { program := "ytkcikhjobgackabdoor", sum := "427a3c126e7528b06b1b68f4065187a72dc854385451ea3355ed9e050efe8a61", func := "loop.example/sigmaproofs/laws.FnWordsMade", spec := "fnWordsMade", named := ["loop.example/sigmaproofs/impl.groups"], apart := false, laid := [("loop.example/sigmaproofs/impl.groups", laid_loop_example_sigmaproofs_impl_groups)] }
def FnWordsMadeSaid : Prop := fnWordsMadeRow.holds Tryd.pinned (OpenSpec.ofChange fnWordsMadeSpec)

/-- ITS FALSE NEIGHBOUR: 'it returns false'. Refute it at one input. -/
def fnWordsMadeWrong : ChangeSpec := { name := "fnWordsMade", vars := ["loop.example/sigmaproofs/impl.groups"], fn := fun _ => fun
  | [d, g1] => { results := [.lit (.bool false)], args := [d], vars := [g1] }
  | _ => none }
def FnWordsMadeWrongFalsely : Prop := fnWordsMadeRow.holds Tryd.pinned (OpenSpec.ofChange fnWordsMadeWrong)

/-- 'laws.FnExponentsFrom': WHATEVER THE INPUT: true; the input reads as it did. -/
def fnExponentsFromSpec : ChangeSpec := { name := "fnExponentsFrom", vars := ["loop.example/sigmaproofs/impl.groups"], fn := fun _ => fun
  | [d, g1] => { results := [.lit (.bool true)], args := [d], vars := [g1] }
  | _ => none }
def fnExponentsFromRow : OpenClaim := { program := "ytkcikhjobgackabdoor", sum := "427a3c126e7528b06b1b68f4065187a72dc854385451ea3355ed9e050efe8a61", func := "loop.example/sigmaproofs/laws.FnExponentsFrom", spec := "fnExponentsFrom", named := ["loop.example/sigmaproofs/impl.groups"], apart := false, laid := [("loop.example/sigmaproofs/impl.groups", laid_loop_example_sigmaproofs_impl_groups)] }
def FnExponentsFromSaid : Prop := fnExponentsFromRow.holds Tryd.pinned (OpenSpec.ofChange fnExponentsFromSpec)

/-- ITS FALSE NEIGHBOUR: 'it returns false'. Refute it at one input. -/
def fnExponentsFromWrong : ChangeSpec := { name := "fnExponentsFrom", vars := ["loop.example/sigmaproofs/impl.groups"], fn := fun _ => fun
  | [d, g1] => { results := [.lit (.bool false)], args := [d], vars := [g1] }
  | _ => none }
def FnExponentsFromWrongFalsely : Prop := fnExponentsFromRow.holds Tryd.pinned (OpenSpec.ofChange fnExponentsFromWrong)

/- THE SECOND FORM. 'bulk': how many values and letters a reading holds, each counted each time it is reached (what is shared counts as often as it is met; a slice's spare places count too). A statement '..UptoSaid' is the law's where the arguments, and the package variables that the reading takes, are together of bulk at most 1048576: NARROWER than '..Said'. Prove '..Said' where nothing that the law and all that it calls make is longer than what came in: it says more and counts as full. Else prove '..UptoSaid'. A law counts once. -/
mutual
def uptoBulk {H : Type} : DataW H → Nat
  | .lit (.string bytes) => bytes.length + 1
  | .lit _ => 1
  | .nil => 1
  | .ptr d => uptoBulk d + 1
  | .slice elems spare => uptoBulkAll elems + uptoBulkAll spare + 1
  | .agg parts => uptoBulkAll parts + 1
  | .iface _ d => uptoBulk d + 1
  | .map entries => uptoBulkEntries entries + 1
  | .held _ => 1
def uptoBulkAll {H : Type} : List (DataW H) → Nat
  | [] => 0
  | d :: r => uptoBulk d + uptoBulkAll r
def uptoBulkEntries {H : Type} : List (Lit × DataW H) → Nat
  | [] => 0
  | x :: r => uptoBulkEntry x + uptoBulkEntries r
def uptoBulkEntry {H : Type} : Lit × DataW H → Nat
  | (.string bytes, d) => bytes.length + uptoBulk d + 1
  | (_, d) => uptoBulk d + 1
 end
def uptoSmall : (H : Type) → List (DataW H) → Bool := fun _ ds => decide (uptoBulkAll ds ≤ 1048576)
def OpenSpec.upto (s : _root_.Go.ChangeSpec) : _root_.Go.OpenSpec := { _root_.Go.OpenSpec.ofChange s with cond := some uptoSmall }

/-- 'laws.FnClaimOk', WHERE WHAT IT READS IS OF BULK AT MOST 1048576: true; the input reads as it did. -/
def fnClaimOkUptoRow : OpenClaim := { program := "ytkcikhjobgackabdoor", sum := "427a3c126e7528b06b1b68f4065187a72dc854385451ea3355ed9e050efe8a61", func := "loop.example/sigmaproofs/laws.FnClaimOk", spec := "fnClaimOk", named := ["loop.example/sigmaproofs/impl.groups"], apart := false, laid := [("loop.example/sigmaproofs/impl.groups", laid_loop_example_sigmaproofs_impl_groups)], narrowed := true }
def FnClaimOkUptoSaid : Prop := fnClaimOkUptoRow.holds Tryd.pinned (OpenSpec.upto fnClaimOkSpec)

/-- 'laws.FnRowsMake', WHERE WHAT IT READS IS OF BULK AT MOST 1048576: true; the input reads as it did. -/
def fnRowsMakeUptoRow : OpenClaim := { program := "ytkcikhjobgackabdoor", sum := "427a3c126e7528b06b1b68f4065187a72dc854385451ea3355ed9e050efe8a61", func := "loop.example/sigmaproofs/laws.FnRowsMake", spec := "fnRowsMake", named := ["loop.example/sigmaproofs/impl.groups"], apart := false, laid := [("loop.example/sigmaproofs/impl.groups", laid_loop_example_sigmaproofs_impl_groups)], narrowed := true }
def FnRowsMakeUptoSaid : Prop := fnRowsMakeUptoRow.holds Tryd.pinned (OpenSpec.upto fnRowsMakeSpec)

/-- 'laws.FnSolves', WHERE WHAT IT READS IS OF BULK AT MOST 1048576: true; the input reads as it did. -/
def fnSolvesUptoRow : OpenClaim := { program := "ytkcikhjobgackabdoor", sum := "427a3c126e7528b06b1b68f4065187a72dc854385451ea3355ed9e050efe8a61", func := "loop.example/sigmaproofs/laws.FnSolves", spec := "fnSolves", named := ["loop.example/sigmaproofs/impl.groups"], apart := false, laid := [("loop.example/sigmaproofs/impl.groups", laid_loop_example_sigmaproofs_impl_groups)], narrowed := true }
def FnSolvesUptoSaid : Prop := fnSolvesUptoRow.holds Tryd.pinned (OpenSpec.upto fnSolvesSpec)

/-- 'laws.FnSolutionsOf', WHERE WHAT IT READS IS OF BULK AT MOST 1048576: true; the input reads as it did. -/
def fnSolutionsOfUptoRow : OpenClaim := { program := "ytkcikhjobgackabdoor", sum := "427a3c126e7528b06b1b68f4065187a72dc854385451ea3355ed9e050efe8a61", func := "loop.example/sigmaproofs/laws.FnSolutionsOf", spec := "fnSolutionsOf", named := ["loop.example/sigmaproofs/impl.groups"], apart := false, laid := [("loop.example/sigmaproofs/impl.groups", laid_loop_example_sigmaproofs_impl_groups)], narrowed := true }
def FnSolutionsOfUptoSaid : Prop := fnSolutionsOfUptoRow.holds Tryd.pinned (OpenSpec.upto fnSolutionsOfSpec)

/-- 'laws.FnWordsOf', WHERE WHAT IT READS IS OF BULK AT MOST 1048576: true; the input reads as it did. -/
def fnWordsOfUptoRow : OpenClaim := { program := "ytkcikhjobgackabdoor", sum := "427a3c126e7528b06b1b68f4065187a72dc854385451ea3355ed9e050efe8a61", func := "loop.example/sigmaproofs/laws.FnWordsOf", spec := "fnWordsOf", named := ["loop.example/sigmaproofs/impl.groups"], apart := false, laid := [("loop.example/sigmaproofs/impl.groups", laid_loop_example_sigmaproofs_impl_groups)], narrowed := true }
def FnWordsOfUptoSaid : Prop := fnWordsOfUptoRow.holds Tryd.pinned (OpenSpec.upto fnWordsOfSpec)

/-- 'laws.FnWordsOk', WHERE WHAT IT READS IS OF BULK AT MOST 1048576: true; the input reads as it did. -/
def fnWordsOkUptoRow : OpenClaim := { program := "ytkcikhjobgackabdoor", sum := "427a3c126e7528b06b1b68f4065187a72dc854385451ea3355ed9e050efe8a61", func := "loop.example/sigmaproofs/laws.FnWordsOk", spec := "fnWordsOk", named := ["loop.example/sigmaproofs/impl.groups"], apart := false, laid := [("loop.example/sigmaproofs/impl.groups", laid_loop_example_sigmaproofs_impl_groups)], narrowed := true }
def FnWordsOkUptoSaid : Prop := fnWordsOkUptoRow.holds Tryd.pinned (OpenSpec.upto fnWordsOkSpec)

/-- 'laws.FnWordsMade', WHERE WHAT IT READS IS OF BULK AT MOST 1048576: true; the input reads as it did. -/
def fnWordsMadeUptoRow : OpenClaim := { program := "ytkcikhjobgackabdoor", sum := "427a3c126e7528b06b1b68f4065187a72dc854385451ea3355ed9e050efe8a61", func := "loop.example/sigmaproofs/laws.FnWordsMade", spec := "fnWordsMade", named := ["loop.example/sigmaproofs/impl.groups"], apart := false, laid := [("loop.example/sigmaproofs/impl.groups", laid_loop_example_sigmaproofs_impl_groups)], narrowed := true }
def FnWordsMadeUptoSaid : Prop := fnWordsMadeUptoRow.holds Tryd.pinned (OpenSpec.upto fnWordsMadeSpec)

/-- 'laws.FnExponentsFrom', WHERE WHAT IT READS IS OF BULK AT MOST 1048576: true; the input reads as it did. -/
def fnExponentsFromUptoRow : OpenClaim := { program := "ytkcikhjobgackabdoor", sum := "427a3c126e7528b06b1b68f4065187a72dc854385451ea3355ed9e050efe8a61", func := "loop.example/sigmaproofs/laws.FnExponentsFrom", spec := "fnExponentsFrom", named := ["loop.example/sigmaproofs/impl.groups"], apart := false, laid := [("loop.example/sigmaproofs/impl.groups", laid_loop_example_sigmaproofs_impl_groups)], narrowed := true }
def FnExponentsFromUptoSaid : Prop := fnExponentsFromUptoRow.holds Tryd.pinned (OpenSpec.upto fnExponentsFromSpec)

end Rows
end Go.Proofs.YtkcikhjobgackabDoor
