/-
  NARROWER THAN 'FOR EVERY INPUT', by the rows' own cells (each row's printed sentence says how): FnExactSecretFrom: laid · FnExactClaimOk: laid · FnExactRowsMake: laid · FnExactSolves: laid · FnExactSolutionsOf: laid · FnExactWordsOf: laid · FnExactWordsOk: laid · FnExactWordsMade: laid · FnExactExponentsFrom: laid · FnExactAnswersMany: laid.
  DERIVED. THE GIVEN ROWS OF THIS SEAT. 10 by the template 'for every input the law returns true; each argument reads behind the call as it read before'; 0 by the template 'total and deterministic' (their statements: YtopjlbihhbjhnaaDoorTotals.lean).
  GIVEN WITH THE SEED: the statements are not yours to turn. If you find one false, say at which input.
  Laid BY PROGRAM, IN A SANDBOX (cutbox-rows.mjs): the forced cells as the released guide's own fill.sh prints them over the translation 2aad8755a9e8e6aa… (all of the seat's roots in one cut). By AI agents, Wed Nov 11 2026. No macro, syntax, notation, axiom, sorry.
-/
import Derived.Test.YtopjlbihhbjhnaaDoorChecked
import GoSem.Claim
import GoSem.ClaimJoined
import GoSem.ClaimMapViews
import Derived.JoinedTies
import Derived.KernelRfl
namespace Go.Proofs.YtopjlbihhbjhnaaDoor
/- THE CELL 'sum', in the pinned program and in every row, IS THE sha256 OF THE DUMP (.gsa) THAT YtopjlbihhbjhnaaDoorProg.lean LOADS. Nothing in Lean hashes anything: it is a label: what it is worth is what the hold of that sum in a sandbox is worth. -/
noncomputable def Tryd.pinned : Pinned := { name := "ytopjlbihhbjhnaadoor", sum := "2aad8755a9e8e6aa6bac21a2c27776f91a85075e96b2e642915795fa19e2693b", checked := Tryd.checked }
namespace Rows
def none {H : Type} : Left H := { results := [], args := [] }

/- WHAT THE LISTED PACKAGE-LEVEL VARIABLES READ AS WHEN THE CALL BEGINS. Each datum BY PROGRAM (the guide's laid-datum.mjs) off the statement by which the dump's own 'gosem.cut.vars' lays the variable. In a bare row this is a premise. The card (YtopjlbihhbjhnaaDoorCards.lean) ties it to the program's text. -/
def laid_loop_example_sigmaproofs_impl_groups {H : Type} : DataW H := .agg [.agg [.lit (.int .i64 7), .lit (.int .i64 3), .lit (.int .i64 2)], .agg [.lit (.int .i64 11), .lit (.int .i64 5), .lit (.int .i64 3)], .agg [.lit (.int .i64 23), .lit (.int .i64 11), .lit (.int .i64 2)], .agg [.lit (.int .i64 47), .lit (.int .i64 23), .lit (.int .i64 2)]]

/-- 'laws.FnExactSecretFrom': WHATEVER THE INPUT: true; the input reads as it did. -/
def fnExactSecretFromSpec : ChangeSpec := { name := "fnExactSecretFrom", vars := ["loop.example/sigmaproofs/impl.groups"], fn := fun _ => fun
  | [d1, d2, d3, d4, g1] => { results := [.lit (.bool true)], args := [d1, d2, d3, d4], vars := [g1] }
  | _ => none }
def fnExactSecretFromRow : OpenClaim := { program := "ytopjlbihhbjhnaadoor", sum := "2aad8755a9e8e6aa6bac21a2c27776f91a85075e96b2e642915795fa19e2693b", func := "loop.example/sigmaproofs/laws.FnExactSecretFrom", spec := "fnExactSecretFrom", named := ["loop.example/sigmaproofs/impl.groups"], apart := false, laid := [("loop.example/sigmaproofs/impl.groups", laid_loop_example_sigmaproofs_impl_groups)] }
def FnExactSecretFromSaid : Prop := fnExactSecretFromRow.holds Tryd.pinned (OpenSpec.ofChange fnExactSecretFromSpec)

/-- ITS FALSE NEIGHBOUR: 'it returns false'. Refute it at one input. -/
def fnExactSecretFromWrong : ChangeSpec := { name := "fnExactSecretFrom", vars := ["loop.example/sigmaproofs/impl.groups"], fn := fun _ => fun
  | [d1, d2, d3, d4, g1] => { results := [.lit (.bool false)], args := [d1, d2, d3, d4], vars := [g1] }
  | _ => none }
def FnExactSecretFromWrongFalsely : Prop := fnExactSecretFromRow.holds Tryd.pinned (OpenSpec.ofChange fnExactSecretFromWrong)

/-- 'laws.FnExactClaimOk': WHATEVER THE INPUT: true; the input reads as it did. -/
def fnExactClaimOkSpec : ChangeSpec := { name := "fnExactClaimOk", vars := ["loop.example/sigmaproofs/impl.groups"], fn := fun _ => fun
  | [d, g1] => { results := [.lit (.bool true)], args := [d], vars := [g1] }
  | _ => none }
def fnExactClaimOkRow : OpenClaim := { program := "ytopjlbihhbjhnaadoor", sum := "2aad8755a9e8e6aa6bac21a2c27776f91a85075e96b2e642915795fa19e2693b", func := "loop.example/sigmaproofs/laws.FnExactClaimOk", spec := "fnExactClaimOk", named := ["loop.example/sigmaproofs/impl.groups"], apart := false, laid := [("loop.example/sigmaproofs/impl.groups", laid_loop_example_sigmaproofs_impl_groups)] }
def FnExactClaimOkSaid : Prop := fnExactClaimOkRow.holds Tryd.pinned (OpenSpec.ofChange fnExactClaimOkSpec)

/-- ITS FALSE NEIGHBOUR: 'it returns false'. Refute it at one input. -/
def fnExactClaimOkWrong : ChangeSpec := { name := "fnExactClaimOk", vars := ["loop.example/sigmaproofs/impl.groups"], fn := fun _ => fun
  | [d, g1] => { results := [.lit (.bool false)], args := [d], vars := [g1] }
  | _ => none }
def FnExactClaimOkWrongFalsely : Prop := fnExactClaimOkRow.holds Tryd.pinned (OpenSpec.ofChange fnExactClaimOkWrong)

/-- 'laws.FnExactRowsMake': WHATEVER THE INPUT: true; the input reads as it did. -/
def fnExactRowsMakeSpec : ChangeSpec := { name := "fnExactRowsMake", vars := ["loop.example/sigmaproofs/impl.groups"], fn := fun _ => fun
  | [d1, d2, g1] => { results := [.lit (.bool true)], args := [d1, d2], vars := [g1] }
  | _ => none }
def fnExactRowsMakeRow : OpenClaim := { program := "ytopjlbihhbjhnaadoor", sum := "2aad8755a9e8e6aa6bac21a2c27776f91a85075e96b2e642915795fa19e2693b", func := "loop.example/sigmaproofs/laws.FnExactRowsMake", spec := "fnExactRowsMake", named := ["loop.example/sigmaproofs/impl.groups"], apart := false, laid := [("loop.example/sigmaproofs/impl.groups", laid_loop_example_sigmaproofs_impl_groups)] }
def FnExactRowsMakeSaid : Prop := fnExactRowsMakeRow.holds Tryd.pinned (OpenSpec.ofChange fnExactRowsMakeSpec)

/-- ITS FALSE NEIGHBOUR: 'it returns false'. Refute it at one input. -/
def fnExactRowsMakeWrong : ChangeSpec := { name := "fnExactRowsMake", vars := ["loop.example/sigmaproofs/impl.groups"], fn := fun _ => fun
  | [d1, d2, g1] => { results := [.lit (.bool false)], args := [d1, d2], vars := [g1] }
  | _ => none }
def FnExactRowsMakeWrongFalsely : Prop := fnExactRowsMakeRow.holds Tryd.pinned (OpenSpec.ofChange fnExactRowsMakeWrong)

/-- 'laws.FnExactSolves': WHATEVER THE INPUT: true; the input reads as it did. -/
def fnExactSolvesSpec : ChangeSpec := { name := "fnExactSolves", vars := ["loop.example/sigmaproofs/impl.groups"], fn := fun _ => fun
  | [d1, d2, g1] => { results := [.lit (.bool true)], args := [d1, d2], vars := [g1] }
  | _ => none }
def fnExactSolvesRow : OpenClaim := { program := "ytopjlbihhbjhnaadoor", sum := "2aad8755a9e8e6aa6bac21a2c27776f91a85075e96b2e642915795fa19e2693b", func := "loop.example/sigmaproofs/laws.FnExactSolves", spec := "fnExactSolves", named := ["loop.example/sigmaproofs/impl.groups"], apart := false, laid := [("loop.example/sigmaproofs/impl.groups", laid_loop_example_sigmaproofs_impl_groups)] }
def FnExactSolvesSaid : Prop := fnExactSolvesRow.holds Tryd.pinned (OpenSpec.ofChange fnExactSolvesSpec)

/-- ITS FALSE NEIGHBOUR: 'it returns false'. Refute it at one input. -/
def fnExactSolvesWrong : ChangeSpec := { name := "fnExactSolves", vars := ["loop.example/sigmaproofs/impl.groups"], fn := fun _ => fun
  | [d1, d2, g1] => { results := [.lit (.bool false)], args := [d1, d2], vars := [g1] }
  | _ => none }
def FnExactSolvesWrongFalsely : Prop := fnExactSolvesRow.holds Tryd.pinned (OpenSpec.ofChange fnExactSolvesWrong)

/-- 'laws.FnExactSolutionsOf': WHATEVER THE INPUT: true; the input reads as it did. -/
def fnExactSolutionsOfSpec : ChangeSpec := { name := "fnExactSolutionsOf", vars := ["loop.example/sigmaproofs/impl.groups"], fn := fun _ => fun
  | [d, g1] => { results := [.lit (.bool true)], args := [d], vars := [g1] }
  | _ => none }
def fnExactSolutionsOfRow : OpenClaim := { program := "ytopjlbihhbjhnaadoor", sum := "2aad8755a9e8e6aa6bac21a2c27776f91a85075e96b2e642915795fa19e2693b", func := "loop.example/sigmaproofs/laws.FnExactSolutionsOf", spec := "fnExactSolutionsOf", named := ["loop.example/sigmaproofs/impl.groups"], apart := false, laid := [("loop.example/sigmaproofs/impl.groups", laid_loop_example_sigmaproofs_impl_groups)] }
def FnExactSolutionsOfSaid : Prop := fnExactSolutionsOfRow.holds Tryd.pinned (OpenSpec.ofChange fnExactSolutionsOfSpec)

/-- ITS FALSE NEIGHBOUR: 'it returns false'. Refute it at one input. -/
def fnExactSolutionsOfWrong : ChangeSpec := { name := "fnExactSolutionsOf", vars := ["loop.example/sigmaproofs/impl.groups"], fn := fun _ => fun
  | [d, g1] => { results := [.lit (.bool false)], args := [d], vars := [g1] }
  | _ => none }
def FnExactSolutionsOfWrongFalsely : Prop := fnExactSolutionsOfRow.holds Tryd.pinned (OpenSpec.ofChange fnExactSolutionsOfWrong)

/-- 'laws.FnExactWordsOf': WHATEVER THE INPUT: true; the input reads as it did. -/
def fnExactWordsOfSpec : ChangeSpec := { name := "fnExactWordsOf", vars := ["loop.example/sigmaproofs/impl.groups"], fn := fun _ => fun
  | [d1, d2, d3, d4, g1] => { results := [.lit (.bool true)], args := [d1, d2, d3, d4], vars := [g1] }
  | _ => none }
def fnExactWordsOfRow : OpenClaim := { program := "ytopjlbihhbjhnaadoor", sum := "2aad8755a9e8e6aa6bac21a2c27776f91a85075e96b2e642915795fa19e2693b", func := "loop.example/sigmaproofs/laws.FnExactWordsOf", spec := "fnExactWordsOf", named := ["loop.example/sigmaproofs/impl.groups"], apart := false, laid := [("loop.example/sigmaproofs/impl.groups", laid_loop_example_sigmaproofs_impl_groups)] }
def FnExactWordsOfSaid : Prop := fnExactWordsOfRow.holds Tryd.pinned (OpenSpec.ofChange fnExactWordsOfSpec)

/-- ITS FALSE NEIGHBOUR: 'it returns false'. Refute it at one input. -/
def fnExactWordsOfWrong : ChangeSpec := { name := "fnExactWordsOf", vars := ["loop.example/sigmaproofs/impl.groups"], fn := fun _ => fun
  | [d1, d2, d3, d4, g1] => { results := [.lit (.bool false)], args := [d1, d2, d3, d4], vars := [g1] }
  | _ => none }
def FnExactWordsOfWrongFalsely : Prop := fnExactWordsOfRow.holds Tryd.pinned (OpenSpec.ofChange fnExactWordsOfWrong)

/-- 'laws.FnExactWordsOk': WHATEVER THE INPUT: true; the input reads as it did. -/
def fnExactWordsOkSpec : ChangeSpec := { name := "fnExactWordsOk", vars := ["loop.example/sigmaproofs/impl.groups"], fn := fun _ => fun
  | [d1, d2, g1] => { results := [.lit (.bool true)], args := [d1, d2], vars := [g1] }
  | _ => none }
def fnExactWordsOkRow : OpenClaim := { program := "ytopjlbihhbjhnaadoor", sum := "2aad8755a9e8e6aa6bac21a2c27776f91a85075e96b2e642915795fa19e2693b", func := "loop.example/sigmaproofs/laws.FnExactWordsOk", spec := "fnExactWordsOk", named := ["loop.example/sigmaproofs/impl.groups"], apart := false, laid := [("loop.example/sigmaproofs/impl.groups", laid_loop_example_sigmaproofs_impl_groups)] }
def FnExactWordsOkSaid : Prop := fnExactWordsOkRow.holds Tryd.pinned (OpenSpec.ofChange fnExactWordsOkSpec)

/-- ITS FALSE NEIGHBOUR: 'it returns false'. Refute it at one input. -/
def fnExactWordsOkWrong : ChangeSpec := { name := "fnExactWordsOk", vars := ["loop.example/sigmaproofs/impl.groups"], fn := fun _ => fun
  | [d1, d2, g1] => { results := [.lit (.bool false)], args := [d1, d2], vars := [g1] }
  | _ => none }
def FnExactWordsOkWrongFalsely : Prop := fnExactWordsOkRow.holds Tryd.pinned (OpenSpec.ofChange fnExactWordsOkWrong)

/-- 'laws.FnExactWordsMade': WHATEVER THE INPUT: true; the input reads as it did. -/
def fnExactWordsMadeSpec : ChangeSpec := { name := "fnExactWordsMade", vars := ["loop.example/sigmaproofs/impl.groups"], fn := fun _ => fun
  | [d1, d2, d3, g1] => { results := [.lit (.bool true)], args := [d1, d2, d3], vars := [g1] }
  | _ => none }
def fnExactWordsMadeRow : OpenClaim := { program := "ytopjlbihhbjhnaadoor", sum := "2aad8755a9e8e6aa6bac21a2c27776f91a85075e96b2e642915795fa19e2693b", func := "loop.example/sigmaproofs/laws.FnExactWordsMade", spec := "fnExactWordsMade", named := ["loop.example/sigmaproofs/impl.groups"], apart := false, laid := [("loop.example/sigmaproofs/impl.groups", laid_loop_example_sigmaproofs_impl_groups)] }
def FnExactWordsMadeSaid : Prop := fnExactWordsMadeRow.holds Tryd.pinned (OpenSpec.ofChange fnExactWordsMadeSpec)

/-- ITS FALSE NEIGHBOUR: 'it returns false'. Refute it at one input. -/
def fnExactWordsMadeWrong : ChangeSpec := { name := "fnExactWordsMade", vars := ["loop.example/sigmaproofs/impl.groups"], fn := fun _ => fun
  | [d1, d2, d3, g1] => { results := [.lit (.bool false)], args := [d1, d2, d3], vars := [g1] }
  | _ => none }
def FnExactWordsMadeWrongFalsely : Prop := fnExactWordsMadeRow.holds Tryd.pinned (OpenSpec.ofChange fnExactWordsMadeWrong)

/-- 'laws.FnExactExponentsFrom': WHATEVER THE INPUT: true; the input reads as it did. -/
def fnExactExponentsFromSpec : ChangeSpec := { name := "fnExactExponentsFrom", vars := ["loop.example/sigmaproofs/impl.groups"], fn := fun _ => fun
  | [d1, d2, d3, g1] => { results := [.lit (.bool true)], args := [d1, d2, d3], vars := [g1] }
  | _ => none }
def fnExactExponentsFromRow : OpenClaim := { program := "ytopjlbihhbjhnaadoor", sum := "2aad8755a9e8e6aa6bac21a2c27776f91a85075e96b2e642915795fa19e2693b", func := "loop.example/sigmaproofs/laws.FnExactExponentsFrom", spec := "fnExactExponentsFrom", named := ["loop.example/sigmaproofs/impl.groups"], apart := false, laid := [("loop.example/sigmaproofs/impl.groups", laid_loop_example_sigmaproofs_impl_groups)] }
def FnExactExponentsFromSaid : Prop := fnExactExponentsFromRow.holds Tryd.pinned (OpenSpec.ofChange fnExactExponentsFromSpec)

/-- ITS FALSE NEIGHBOUR: 'it returns false'. Refute it at one input. -/
def fnExactExponentsFromWrong : ChangeSpec := { name := "fnExactExponentsFrom", vars := ["loop.example/sigmaproofs/impl.groups"], fn := fun _ => fun
  | [d1, d2, d3, g1] => { results := [.lit (.bool false)], args := [d1, d2, d3], vars := [g1] }
  | _ => none }
def FnExactExponentsFromWrongFalsely : Prop := fnExactExponentsFromRow.holds Tryd.pinned (OpenSpec.ofChange fnExactExponentsFromWrong)

/-- 'laws.FnExactAnswersMany': WHATEVER THE INPUT: true; the input reads as it did. -/
def fnExactAnswersManySpec : ChangeSpec := { name := "fnExactAnswersMany", vars := ["loop.example/sigmaproofs/impl.groups"], fn := fun _ => fun
  | [d1, d2, g1] => { results := [.lit (.bool true)], args := [d1, d2], vars := [g1] }
  | _ => none }
def fnExactAnswersManyRow : OpenClaim := { program := "ytopjlbihhbjhnaadoor", sum := "2aad8755a9e8e6aa6bac21a2c27776f91a85075e96b2e642915795fa19e2693b", func := "loop.example/sigmaproofs/laws.FnExactAnswersMany", spec := "fnExactAnswersMany", unfollowed := true, recurses := true, named := ["loop.example/sigmaproofs/impl.groups"], apart := false, laid := [("loop.example/sigmaproofs/impl.groups", laid_loop_example_sigmaproofs_impl_groups)] }
def FnExactAnswersManySaid : Prop := fnExactAnswersManyRow.holds Tryd.pinned (OpenSpec.ofChange fnExactAnswersManySpec)

/-- ITS FALSE NEIGHBOUR: 'it returns false'. Refute it at one input. -/
def fnExactAnswersManyWrong : ChangeSpec := { name := "fnExactAnswersMany", vars := ["loop.example/sigmaproofs/impl.groups"], fn := fun _ => fun
  | [d1, d2, g1] => { results := [.lit (.bool false)], args := [d1, d2], vars := [g1] }
  | _ => none }
def FnExactAnswersManyWrongFalsely : Prop := fnExactAnswersManyRow.holds Tryd.pinned (OpenSpec.ofChange fnExactAnswersManyWrong)

/- THE SECOND FORM. 'bulk': how many values and letters a reading holds, each counted each time it is reached (what is shared counts as often as it is met; a slice's spare places count too). A statement '..UptoSaid' is the law's where the arguments, and the package variables that the reading takes, are together of bulk at most 1048576: NARROWER than '..Said'. Prove '..Said' where nothing that the law and all that it calls make is longer than what came in: it says more and counts as full. Else prove '..UptoSaid'. A law counts once. -/
mutual
def uptoBulk {H : Type} : DataW H → Nat
  | .lit (.string bytes) => bytes.length + 1
  | .lit _ => 1
  | .nil => 1
  | .ptr d => uptoBulk d + 1
  | .slice elems spare => uptoBulkAll elems + uptoBulkAll spare + 1
  | .agg parts => uptoBulkAll parts + 1
  | .iface _ d => uptoBulk d + 1
  | .map entries => uptoBulkEntries entries + 1
  | .held _ => 1
def uptoBulkAll {H : Type} : List (DataW H) → Nat
  | [] => 0
  | d :: r => uptoBulk d + uptoBulkAll r
def uptoBulkEntries {H : Type} : List (Lit × DataW H) → Nat
  | [] => 0
  | x :: r => uptoBulkEntry x + uptoBulkEntries r
def uptoBulkEntry {H : Type} : Lit × DataW H → Nat
  | (.string bytes, d) => bytes.length + uptoBulk d + 1
  | (_, d) => uptoBulk d + 1
 end
def uptoSmall : (H : Type) → List (DataW H) → Bool := fun _ ds => decide (uptoBulkAll ds ≤ 1048576)
def OpenSpec.upto (s : _root_.Go.ChangeSpec) : _root_.Go.OpenSpec := { _root_.Go.OpenSpec.ofChange s with cond := some uptoSmall }

/-- 'laws.FnExactSecretFrom', WHERE WHAT IT READS IS OF BULK AT MOST 1048576: true; the input reads as it did. -/
def fnExactSecretFromUptoRow : OpenClaim := { program := "ytopjlbihhbjhnaadoor", sum := "2aad8755a9e8e6aa6bac21a2c27776f91a85075e96b2e642915795fa19e2693b", func := "loop.example/sigmaproofs/laws.FnExactSecretFrom", spec := "fnExactSecretFrom", named := ["loop.example/sigmaproofs/impl.groups"], apart := false, laid := [("loop.example/sigmaproofs/impl.groups", laid_loop_example_sigmaproofs_impl_groups)], narrowed := true }
def FnExactSecretFromUptoSaid : Prop := fnExactSecretFromUptoRow.holds Tryd.pinned (OpenSpec.upto fnExactSecretFromSpec)

/-- 'laws.FnExactClaimOk', WHERE WHAT IT READS IS OF BULK AT MOST 1048576: true; the input reads as it did. -/
def fnExactClaimOkUptoRow : OpenClaim := { program := "ytopjlbihhbjhnaadoor", sum := "2aad8755a9e8e6aa6bac21a2c27776f91a85075e96b2e642915795fa19e2693b", func := "loop.example/sigmaproofs/laws.FnExactClaimOk", spec := "fnExactClaimOk", named := ["loop.example/sigmaproofs/impl.groups"], apart := false, laid := [("loop.example/sigmaproofs/impl.groups", laid_loop_example_sigmaproofs_impl_groups)], narrowed := true }
def FnExactClaimOkUptoSaid : Prop := fnExactClaimOkUptoRow.holds Tryd.pinned (OpenSpec.upto fnExactClaimOkSpec)

/-- 'laws.FnExactRowsMake', WHERE WHAT IT READS IS OF BULK AT MOST 1048576: true; the input reads as it did. -/
def fnExactRowsMakeUptoRow : OpenClaim := { program := "ytopjlbihhbjhnaadoor", sum := "2aad8755a9e8e6aa6bac21a2c27776f91a85075e96b2e642915795fa19e2693b", func := "loop.example/sigmaproofs/laws.FnExactRowsMake", spec := "fnExactRowsMake", named := ["loop.example/sigmaproofs/impl.groups"], apart := false, laid := [("loop.example/sigmaproofs/impl.groups", laid_loop_example_sigmaproofs_impl_groups)], narrowed := true }
def FnExactRowsMakeUptoSaid : Prop := fnExactRowsMakeUptoRow.holds Tryd.pinned (OpenSpec.upto fnExactRowsMakeSpec)

/-- 'laws.FnExactSolves', WHERE WHAT IT READS IS OF BULK AT MOST 1048576: true; the input reads as it did. -/
def fnExactSolvesUptoRow : OpenClaim := { program := "ytopjlbihhbjhnaadoor", sum := "2aad8755a9e8e6aa6bac21a2c27776f91a85075e96b2e642915795fa19e2693b", func := "loop.example/sigmaproofs/laws.FnExactSolves", spec := "fnExactSolves", named := ["loop.example/sigmaproofs/impl.groups"], apart := false, laid := [("loop.example/sigmaproofs/impl.groups", laid_loop_example_sigmaproofs_impl_groups)], narrowed := true }
def FnExactSolvesUptoSaid : Prop := fnExactSolvesUptoRow.holds Tryd.pinned (OpenSpec.upto fnExactSolvesSpec)

/-- 'laws.FnExactSolutionsOf', WHERE WHAT IT READS IS OF BULK AT MOST 1048576: true; the input reads as it did. -/
def fnExactSolutionsOfUptoRow : OpenClaim := { program := "ytopjlbihhbjhnaadoor", sum := "2aad8755a9e8e6aa6bac21a2c27776f91a85075e96b2e642915795fa19e2693b", func := "loop.example/sigmaproofs/laws.FnExactSolutionsOf", spec := "fnExactSolutionsOf", named := ["loop.example/sigmaproofs/impl.groups"], apart := false, laid := [("loop.example/sigmaproofs/impl.groups", laid_loop_example_sigmaproofs_impl_groups)], narrowed := true }
def FnExactSolutionsOfUptoSaid : Prop := fnExactSolutionsOfUptoRow.holds Tryd.pinned (OpenSpec.upto fnExactSolutionsOfSpec)

/-- 'laws.FnExactWordsOf', WHERE WHAT IT READS IS OF BULK AT MOST 1048576: true; the input reads as it did. -/
def fnExactWordsOfUptoRow : OpenClaim := { program := "ytopjlbihhbjhnaadoor", sum := "2aad8755a9e8e6aa6bac21a2c27776f91a85075e96b2e642915795fa19e2693b", func := "loop.example/sigmaproofs/laws.FnExactWordsOf", spec := "fnExactWordsOf", named := ["loop.example/sigmaproofs/impl.groups"], apart := false, laid := [("loop.example/sigmaproofs/impl.groups", laid_loop_example_sigmaproofs_impl_groups)], narrowed := true }
def FnExactWordsOfUptoSaid : Prop := fnExactWordsOfUptoRow.holds Tryd.pinned (OpenSpec.upto fnExactWordsOfSpec)

/-- 'laws.FnExactWordsOk', WHERE WHAT IT READS IS OF BULK AT MOST 1048576: true; the input reads as it did. -/
def fnExactWordsOkUptoRow : OpenClaim := { program := "ytopjlbihhbjhnaadoor", sum := "2aad8755a9e8e6aa6bac21a2c27776f91a85075e96b2e642915795fa19e2693b", func := "loop.example/sigmaproofs/laws.FnExactWordsOk", spec := "fnExactWordsOk", named := ["loop.example/sigmaproofs/impl.groups"], apart := false, laid := [("loop.example/sigmaproofs/impl.groups", laid_loop_example_sigmaproofs_impl_groups)], narrowed := true }
def FnExactWordsOkUptoSaid : Prop := fnExactWordsOkUptoRow.holds Tryd.pinned (OpenSpec.upto fnExactWordsOkSpec)

/-- 'laws.FnExactWordsMade', WHERE WHAT IT READS IS OF BULK AT MOST 1048576: true; the input reads as it did. -/
def fnExactWordsMadeUptoRow : OpenClaim := { program := "ytopjlbihhbjhnaadoor", sum := "2aad8755a9e8e6aa6bac21a2c27776f91a85075e96b2e642915795fa19e2693b", func := "loop.example/sigmaproofs/laws.FnExactWordsMade", spec := "fnExactWordsMade", named := ["loop.example/sigmaproofs/impl.groups"], apart := false, laid := [("loop.example/sigmaproofs/impl.groups", laid_loop_example_sigmaproofs_impl_groups)], narrowed := true }
def FnExactWordsMadeUptoSaid : Prop := fnExactWordsMadeUptoRow.holds Tryd.pinned (OpenSpec.upto fnExactWordsMadeSpec)

/-- 'laws.FnExactExponentsFrom', WHERE WHAT IT READS IS OF BULK AT MOST 1048576: true; the input reads as it did. -/
def fnExactExponentsFromUptoRow : OpenClaim := { program := "ytopjlbihhbjhnaadoor", sum := "2aad8755a9e8e6aa6bac21a2c27776f91a85075e96b2e642915795fa19e2693b", func := "loop.example/sigmaproofs/laws.FnExactExponentsFrom", spec := "fnExactExponentsFrom", named := ["loop.example/sigmaproofs/impl.groups"], apart := false, laid := [("loop.example/sigmaproofs/impl.groups", laid_loop_example_sigmaproofs_impl_groups)], narrowed := true }
def FnExactExponentsFromUptoSaid : Prop := fnExactExponentsFromUptoRow.holds Tryd.pinned (OpenSpec.upto fnExactExponentsFromSpec)

/-- 'laws.FnExactAnswersMany', WHERE WHAT IT READS IS OF BULK AT MOST 1048576: true; the input reads as it did. -/
def fnExactAnswersManyUptoRow : OpenClaim := { program := "ytopjlbihhbjhnaadoor", sum := "2aad8755a9e8e6aa6bac21a2c27776f91a85075e96b2e642915795fa19e2693b", func := "loop.example/sigmaproofs/laws.FnExactAnswersMany", spec := "fnExactAnswersMany", unfollowed := true, recurses := true, named := ["loop.example/sigmaproofs/impl.groups"], apart := false, laid := [("loop.example/sigmaproofs/impl.groups", laid_loop_example_sigmaproofs_impl_groups)], narrowed := true }
def FnExactAnswersManyUptoSaid : Prop := fnExactAnswersManyUptoRow.holds Tryd.pinned (OpenSpec.upto fnExactAnswersManySpec)

end Rows
end Go.Proofs.YtopjlbihhbjhnaaDoor
