/-
  NARROWER THAN 'FOR EVERY INPUT', by the rows' own cells (each row's printed sentence says how): FnExactKeysOk: laid · FnExactLinesUp: laid · FnExactSomeOk: laid · FnExactSomeOf: laid · FnExactSecretsFrom: laid · FnExactSomeMany: laid · FnExactTalksBy: laid · FnExactClaimOk: laid.
  DERIVED. THE GIVEN ROWS OF THIS SEAT. 8 by the template 'for every input the law returns true; each argument reads behind the call as it read before'; 0 by the template 'total and deterministic' (their statements: YtkcikhjobgackaaDoorTotals.lean).
  GIVEN WITH THE SEED: the statements are not yours to turn. If you find one false, say at which input.
  Laid BY PROGRAM, IN A SANDBOX (cutbox-rows.mjs): the forced cells as the released guide's own fill.sh prints them over the translation cdda67be618c1d2c… (all of the seat's roots in one cut). By AI agents, Wed Nov 11 2026. No macro, syntax, notation, axiom, sorry.
-/
import Derived.Test.YtkcikhjobgackaaDoorChecked
import GoSem.Claim
import GoSem.ClaimJoined
import GoSem.ClaimMapViews
import Derived.JoinedTies
import Derived.KernelRfl
namespace Go.Proofs.YtkcikhjobgackaaDoor
/- THE CELL 'sum', in the pinned program and in every row, IS THE sha256 OF THE DUMP (.gsa) THAT YtkcikhjobgackaaDoorProg.lean LOADS. Nothing in Lean hashes anything: it is a label: what it is worth is what the hold of that sum in a sandbox is worth. -/
noncomputable def Tryd.pinned : Pinned := { name := "ytkcikhjobgackaadoor", sum := "cdda67be618c1d2c7bd022e825f0dea92744d37edf22a117cadcc4c10f70a333", checked := Tryd.checked }
namespace Rows
def none {H : Type} : Left H := { results := [], args := [] }

/- WHAT THE LISTED PACKAGE-LEVEL VARIABLES READ AS WHEN THE CALL BEGINS. Each datum BY PROGRAM (the guide's laid-datum.mjs) off the statement by which the dump's own 'gosem.cut.vars' lays the variable. In a bare row this is a premise. The card (YtkcikhjobgackaaDoorCards.lean) ties it to the program's text. -/
def laid_loop_example_sigmaproofs_impl_groups {H : Type} : DataW H := .agg [.agg [.lit (.int .i64 7), .lit (.int .i64 3), .lit (.int .i64 2)], .agg [.lit (.int .i64 11), .lit (.int .i64 5), .lit (.int .i64 3)], .agg [.lit (.int .i64 23), .lit (.int .i64 11), .lit (.int .i64 2)], .agg [.lit (.int .i64 47), .lit (.int .i64 23), .lit (.int .i64 2)]]

/-- 'laws.FnExactKeysOk': WHATEVER THE INPUT: true; the input reads as it did. -/
def fnExactKeysOkSpec : ChangeSpec := { name := "fnExactKeysOk", vars := ["loop.example/sigmaproofs/impl.groups"], fn := fun _ => fun
  | [d1, d2, d3, g1] => { results := [.lit (.bool true)], args := [d1, d2, d3], vars := [g1] }
  | _ => none }
def fnExactKeysOkRow : OpenClaim := { program := "ytkcikhjobgackaadoor", sum := "cdda67be618c1d2c7bd022e825f0dea92744d37edf22a117cadcc4c10f70a333", func := "loop.example/sigmaproofs/laws.FnExactKeysOk", spec := "fnExactKeysOk", named := ["loop.example/sigmaproofs/impl.groups"], apart := false, laid := [("loop.example/sigmaproofs/impl.groups", laid_loop_example_sigmaproofs_impl_groups)] }
def FnExactKeysOkSaid : Prop := fnExactKeysOkRow.holds Tryd.pinned (OpenSpec.ofChange fnExactKeysOkSpec)

/-- ITS FALSE NEIGHBOUR: 'it returns false'. Refute it at one input. -/
def fnExactKeysOkWrong : ChangeSpec := { name := "fnExactKeysOk", vars := ["loop.example/sigmaproofs/impl.groups"], fn := fun _ => fun
  | [d1, d2, d3, g1] => { results := [.lit (.bool false)], args := [d1, d2, d3], vars := [g1] }
  | _ => none }
def FnExactKeysOkWrongFalsely : Prop := fnExactKeysOkRow.holds Tryd.pinned (OpenSpec.ofChange fnExactKeysOkWrong)

/-- 'laws.FnExactLinesUp': WHATEVER THE INPUT: true; the input reads as it did. -/
def fnExactLinesUpSpec : ChangeSpec := { name := "fnExactLinesUp", vars := ["loop.example/sigmaproofs/impl.groups"], fn := fun _ => fun
  | [d1, d2, d3, d4, g1] => { results := [.lit (.bool true)], args := [d1, d2, d3, d4], vars := [g1] }
  | _ => none }
def fnExactLinesUpRow : OpenClaim := { program := "ytkcikhjobgackaadoor", sum := "cdda67be618c1d2c7bd022e825f0dea92744d37edf22a117cadcc4c10f70a333", func := "loop.example/sigmaproofs/laws.FnExactLinesUp", spec := "fnExactLinesUp", named := ["loop.example/sigmaproofs/impl.groups"], apart := false, laid := [("loop.example/sigmaproofs/impl.groups", laid_loop_example_sigmaproofs_impl_groups)] }
def FnExactLinesUpSaid : Prop := fnExactLinesUpRow.holds Tryd.pinned (OpenSpec.ofChange fnExactLinesUpSpec)

/-- ITS FALSE NEIGHBOUR: 'it returns false'. Refute it at one input. -/
def fnExactLinesUpWrong : ChangeSpec := { name := "fnExactLinesUp", vars := ["loop.example/sigmaproofs/impl.groups"], fn := fun _ => fun
  | [d1, d2, d3, d4, g1] => { results := [.lit (.bool false)], args := [d1, d2, d3, d4], vars := [g1] }
  | _ => none }
def FnExactLinesUpWrongFalsely : Prop := fnExactLinesUpRow.holds Tryd.pinned (OpenSpec.ofChange fnExactLinesUpWrong)

/-- 'laws.FnExactSomeOk': WHATEVER THE INPUT: true; the input reads as it did. -/
def fnExactSomeOkSpec : ChangeSpec := { name := "fnExactSomeOk", vars := ["loop.example/sigmaproofs/impl.groups"], fn := fun _ => fun
  | [d1, d2, d3, d4, g1] => { results := [.lit (.bool true)], args := [d1, d2, d3, d4], vars := [g1] }
  | _ => none }
def fnExactSomeOkRow : OpenClaim := { program := "ytkcikhjobgackaadoor", sum := "cdda67be618c1d2c7bd022e825f0dea92744d37edf22a117cadcc4c10f70a333", func := "loop.example/sigmaproofs/laws.FnExactSomeOk", spec := "fnExactSomeOk", named := ["loop.example/sigmaproofs/impl.groups"], apart := false, laid := [("loop.example/sigmaproofs/impl.groups", laid_loop_example_sigmaproofs_impl_groups)] }
def FnExactSomeOkSaid : Prop := fnExactSomeOkRow.holds Tryd.pinned (OpenSpec.ofChange fnExactSomeOkSpec)

/-- ITS FALSE NEIGHBOUR: 'it returns false'. Refute it at one input. -/
def fnExactSomeOkWrong : ChangeSpec := { name := "fnExactSomeOk", vars := ["loop.example/sigmaproofs/impl.groups"], fn := fun _ => fun
  | [d1, d2, d3, d4, g1] => { results := [.lit (.bool false)], args := [d1, d2, d3, d4], vars := [g1] }
  | _ => none }
def FnExactSomeOkWrongFalsely : Prop := fnExactSomeOkRow.holds Tryd.pinned (OpenSpec.ofChange fnExactSomeOkWrong)

/-- 'laws.FnExactSomeOf': WHATEVER THE INPUT: true; the input reads as it did. -/
def fnExactSomeOfSpec : ChangeSpec := { name := "fnExactSomeOf", vars := ["loop.example/sigmaproofs/impl.groups"], fn := fun _ => fun
  | [d1, d2, d3, d4, d5, d6, d7, g1] => { results := [.lit (.bool true)], args := [d1, d2, d3, d4, d5, d6, d7], vars := [g1] }
  | _ => none }
def fnExactSomeOfRow : OpenClaim := { program := "ytkcikhjobgackaadoor", sum := "cdda67be618c1d2c7bd022e825f0dea92744d37edf22a117cadcc4c10f70a333", func := "loop.example/sigmaproofs/laws.FnExactSomeOf", spec := "fnExactSomeOf", named := ["loop.example/sigmaproofs/impl.groups"], apart := false, laid := [("loop.example/sigmaproofs/impl.groups", laid_loop_example_sigmaproofs_impl_groups)] }
def FnExactSomeOfSaid : Prop := fnExactSomeOfRow.holds Tryd.pinned (OpenSpec.ofChange fnExactSomeOfSpec)

/-- ITS FALSE NEIGHBOUR: 'it returns false'. Refute it at one input. -/
def fnExactSomeOfWrong : ChangeSpec := { name := "fnExactSomeOf", vars := ["loop.example/sigmaproofs/impl.groups"], fn := fun _ => fun
  | [d1, d2, d3, d4, d5, d6, d7, g1] => { results := [.lit (.bool false)], args := [d1, d2, d3, d4, d5, d6, d7], vars := [g1] }
  | _ => none }
def FnExactSomeOfWrongFalsely : Prop := fnExactSomeOfRow.holds Tryd.pinned (OpenSpec.ofChange fnExactSomeOfWrong)

/-- 'laws.FnExactSecretsFrom': WHATEVER THE INPUT: true; the input reads as it did. -/
def fnExactSecretsFromSpec : ChangeSpec := { name := "fnExactSecretsFrom", vars := ["loop.example/sigmaproofs/impl.groups"], fn := fun _ => fun
  | [d1, d2, d3, d4, d5, g1] => { results := [.lit (.bool true)], args := [d1, d2, d3, d4, d5], vars := [g1] }
  | _ => none }
def fnExactSecretsFromRow : OpenClaim := { program := "ytkcikhjobgackaadoor", sum := "cdda67be618c1d2c7bd022e825f0dea92744d37edf22a117cadcc4c10f70a333", func := "loop.example/sigmaproofs/laws.FnExactSecretsFrom", spec := "fnExactSecretsFrom", named := ["loop.example/sigmaproofs/impl.groups"], apart := false, laid := [("loop.example/sigmaproofs/impl.groups", laid_loop_example_sigmaproofs_impl_groups)] }
def FnExactSecretsFromSaid : Prop := fnExactSecretsFromRow.holds Tryd.pinned (OpenSpec.ofChange fnExactSecretsFromSpec)

/-- ITS FALSE NEIGHBOUR: 'it returns false'. Refute it at one input. -/
def fnExactSecretsFromWrong : ChangeSpec := { name := "fnExactSecretsFrom", vars := ["loop.example/sigmaproofs/impl.groups"], fn := fun _ => fun
  | [d1, d2, d3, d4, d5, g1] => { results := [.lit (.bool false)], args := [d1, d2, d3, d4, d5], vars := [g1] }
  | _ => none }
def FnExactSecretsFromWrongFalsely : Prop := fnExactSecretsFromRow.holds Tryd.pinned (OpenSpec.ofChange fnExactSecretsFromWrong)

/-- 'laws.FnExactSomeMany': WHATEVER THE INPUT: true; the input reads as it did. -/
def fnExactSomeManySpec : ChangeSpec := { name := "fnExactSomeMany", vars := ["loop.example/sigmaproofs/impl.groups"], fn := fun _ => fun
  | [d1, d2, d3, d4, g1] => { results := [.lit (.bool true)], args := [d1, d2, d3, d4], vars := [g1] }
  | _ => none }
def fnExactSomeManyRow : OpenClaim := { program := "ytkcikhjobgackaadoor", sum := "cdda67be618c1d2c7bd022e825f0dea92744d37edf22a117cadcc4c10f70a333", func := "loop.example/sigmaproofs/laws.FnExactSomeMany", spec := "fnExactSomeMany", named := ["loop.example/sigmaproofs/impl.groups"], apart := false, laid := [("loop.example/sigmaproofs/impl.groups", laid_loop_example_sigmaproofs_impl_groups)] }
def FnExactSomeManySaid : Prop := fnExactSomeManyRow.holds Tryd.pinned (OpenSpec.ofChange fnExactSomeManySpec)

/-- ITS FALSE NEIGHBOUR: 'it returns false'. Refute it at one input. -/
def fnExactSomeManyWrong : ChangeSpec := { name := "fnExactSomeMany", vars := ["loop.example/sigmaproofs/impl.groups"], fn := fun _ => fun
  | [d1, d2, d3, d4, g1] => { results := [.lit (.bool false)], args := [d1, d2, d3, d4], vars := [g1] }
  | _ => none }
def FnExactSomeManyWrongFalsely : Prop := fnExactSomeManyRow.holds Tryd.pinned (OpenSpec.ofChange fnExactSomeManyWrong)

/-- 'laws.FnExactTalksBy': WHATEVER THE INPUT: true; the input reads as it did. -/
def fnExactTalksBySpec : ChangeSpec := { name := "fnExactTalksBy", vars := ["loop.example/sigmaproofs/impl.groups"], fn := fun _ => fun
  | [d1, d2, d3, d4, g1] => { results := [.lit (.bool true)], args := [d1, d2, d3, d4], vars := [g1] }
  | _ => none }
def fnExactTalksByRow : OpenClaim := { program := "ytkcikhjobgackaadoor", sum := "cdda67be618c1d2c7bd022e825f0dea92744d37edf22a117cadcc4c10f70a333", func := "loop.example/sigmaproofs/laws.FnExactTalksBy", spec := "fnExactTalksBy", recurses := true, named := ["loop.example/sigmaproofs/impl.groups"], apart := false, laid := [("loop.example/sigmaproofs/impl.groups", laid_loop_example_sigmaproofs_impl_groups)] }
def FnExactTalksBySaid : Prop := fnExactTalksByRow.holds Tryd.pinned (OpenSpec.ofChange fnExactTalksBySpec)

/-- ITS FALSE NEIGHBOUR: 'it returns false'. Refute it at one input. -/
def fnExactTalksByWrong : ChangeSpec := { name := "fnExactTalksBy", vars := ["loop.example/sigmaproofs/impl.groups"], fn := fun _ => fun
  | [d1, d2, d3, d4, g1] => { results := [.lit (.bool false)], args := [d1, d2, d3, d4], vars := [g1] }
  | _ => none }
def FnExactTalksByWrongFalsely : Prop := fnExactTalksByRow.holds Tryd.pinned (OpenSpec.ofChange fnExactTalksByWrong)

/-- 'laws.FnExactClaimOk': WHATEVER THE INPUT: true; the input reads as it did. -/
def fnExactClaimOkSpec : ChangeSpec := { name := "fnExactClaimOk", vars := ["loop.example/sigmaproofs/impl.groups"], fn := fun _ => fun
  | [d, g1] => { results := [.lit (.bool true)], args := [d], vars := [g1] }
  | _ => none }
def fnExactClaimOkRow : OpenClaim := { program := "ytkcikhjobgackaadoor", sum := "cdda67be618c1d2c7bd022e825f0dea92744d37edf22a117cadcc4c10f70a333", func := "loop.example/sigmaproofs/laws.FnExactClaimOk", spec := "fnExactClaimOk", named := ["loop.example/sigmaproofs/impl.groups"], apart := false, laid := [("loop.example/sigmaproofs/impl.groups", laid_loop_example_sigmaproofs_impl_groups)] }
def FnExactClaimOkSaid : Prop := fnExactClaimOkRow.holds Tryd.pinned (OpenSpec.ofChange fnExactClaimOkSpec)

/-- ITS FALSE NEIGHBOUR: 'it returns false'. Refute it at one input. -/
def fnExactClaimOkWrong : ChangeSpec := { name := "fnExactClaimOk", vars := ["loop.example/sigmaproofs/impl.groups"], fn := fun _ => fun
  | [d, g1] => { results := [.lit (.bool false)], args := [d], vars := [g1] }
  | _ => none }
def FnExactClaimOkWrongFalsely : Prop := fnExactClaimOkRow.holds Tryd.pinned (OpenSpec.ofChange fnExactClaimOkWrong)

/- THE SECOND FORM. 'bulk': how many values and letters a reading holds, each counted each time it is reached (what is shared counts as often as it is met; a slice's spare places count too). A statement '..UptoSaid' is the law's where the arguments, and the package variables that the reading takes, are together of bulk at most 1048576: NARROWER than '..Said'. Prove '..Said' where nothing that the law and all that it calls make is longer than what came in: it says more and counts as full. Else prove '..UptoSaid'. A law counts once. -/
mutual
def uptoBulk {H : Type} : DataW H → Nat
  | .lit (.string bytes) => bytes.length + 1
  | .lit _ => 1
  | .nil => 1
  | .ptr d => uptoBulk d + 1
  | .slice elems spare => uptoBulkAll elems + uptoBulkAll spare + 1
  | .agg parts => uptoBulkAll parts + 1
  | .iface _ d => uptoBulk d + 1
  | .map entries => uptoBulkEntries entries + 1
  | .held _ => 1
def uptoBulkAll {H : Type} : List (DataW H) → Nat
  | [] => 0
  | d :: r => uptoBulk d + uptoBulkAll r
def uptoBulkEntries {H : Type} : List (Lit × DataW H) → Nat
  | [] => 0
  | x :: r => uptoBulkEntry x + uptoBulkEntries r
def uptoBulkEntry {H : Type} : Lit × DataW H → Nat
  | (.string bytes, d) => bytes.length + uptoBulk d + 1
  | (_, d) => uptoBulk d + 1
 end
def uptoSmall : (H : Type) → List (DataW H) → Bool := fun _ ds => decide (uptoBulkAll ds ≤ 1048576)
def OpenSpec.upto (s : _root_.Go.ChangeSpec) : _root_.Go.OpenSpec := { _root_.Go.OpenSpec.ofChange s with cond := some uptoSmall }

/-- 'laws.FnExactKeysOk', WHERE WHAT IT READS IS OF BULK AT MOST 1048576: true; the input reads as it did. -/
def fnExactKeysOkUptoRow : OpenClaim := { program := "ytkcikhjobgackaadoor", sum := "cdda67be618c1d2c7bd022e825f0dea92744d37edf22a117cadcc4c10f70a333", func := "loop.example/sigmaproofs/laws.FnExactKeysOk", spec := "fnExactKeysOk", named := ["loop.example/sigmaproofs/impl.groups"], apart := false, laid := [("loop.example/sigmaproofs/impl.groups", laid_loop_example_sigmaproofs_impl_groups)], narrowed := true }
def FnExactKeysOkUptoSaid : Prop := fnExactKeysOkUptoRow.holds Tryd.pinned (OpenSpec.upto fnExactKeysOkSpec)

/-- 'laws.FnExactLinesUp', WHERE WHAT IT READS IS OF BULK AT MOST 1048576: true; the input reads as it did. -/
def fnExactLinesUpUptoRow : OpenClaim := { program := "ytkcikhjobgackaadoor", sum := "cdda67be618c1d2c7bd022e825f0dea92744d37edf22a117cadcc4c10f70a333", func := "loop.example/sigmaproofs/laws.FnExactLinesUp", spec := "fnExactLinesUp", named := ["loop.example/sigmaproofs/impl.groups"], apart := false, laid := [("loop.example/sigmaproofs/impl.groups", laid_loop_example_sigmaproofs_impl_groups)], narrowed := true }
def FnExactLinesUpUptoSaid : Prop := fnExactLinesUpUptoRow.holds Tryd.pinned (OpenSpec.upto fnExactLinesUpSpec)

/-- 'laws.FnExactSomeOk', WHERE WHAT IT READS IS OF BULK AT MOST 1048576: true; the input reads as it did. -/
def fnExactSomeOkUptoRow : OpenClaim := { program := "ytkcikhjobgackaadoor", sum := "cdda67be618c1d2c7bd022e825f0dea92744d37edf22a117cadcc4c10f70a333", func := "loop.example/sigmaproofs/laws.FnExactSomeOk", spec := "fnExactSomeOk", named := ["loop.example/sigmaproofs/impl.groups"], apart := false, laid := [("loop.example/sigmaproofs/impl.groups", laid_loop_example_sigmaproofs_impl_groups)], narrowed := true }
def FnExactSomeOkUptoSaid : Prop := fnExactSomeOkUptoRow.holds Tryd.pinned (OpenSpec.upto fnExactSomeOkSpec)

/-- 'laws.FnExactSomeOf', WHERE WHAT IT READS IS OF BULK AT MOST 1048576: true; the input reads as it did. -/
def fnExactSomeOfUptoRow : OpenClaim := { program := "ytkcikhjobgackaadoor", sum := "cdda67be618c1d2c7bd022e825f0dea92744d37edf22a117cadcc4c10f70a333", func := "loop.example/sigmaproofs/laws.FnExactSomeOf", spec := "fnExactSomeOf", named := ["loop.example/sigmaproofs/impl.groups"], apart := false, laid := [("loop.example/sigmaproofs/impl.groups", laid_loop_example_sigmaproofs_impl_groups)], narrowed := true }
def FnExactSomeOfUptoSaid : Prop := fnExactSomeOfUptoRow.holds Tryd.pinned (OpenSpec.upto fnExactSomeOfSpec)

/-- 'laws.FnExactSecretsFrom', WHERE WHAT IT READS IS OF BULK AT MOST 1048576: true; the input reads as it did. -/
def fnExactSecretsFromUptoRow : OpenClaim := { program := "ytkcikhjobgackaadoor", sum := "cdda67be618c1d2c7bd022e825f0dea92744d37edf22a117cadcc4c10f70a333", func := "loop.example/sigmaproofs/laws.FnExactSecretsFrom", spec := "fnExactSecretsFrom", named := ["loop.example/sigmaproofs/impl.groups"], apart := false, laid := [("loop.example/sigmaproofs/impl.groups", laid_loop_example_sigmaproofs_impl_groups)], narrowed := true }
def FnExactSecretsFromUptoSaid : Prop := fnExactSecretsFromUptoRow.holds Tryd.pinned (OpenSpec.upto fnExactSecretsFromSpec)

/-- 'laws.FnExactSomeMany', WHERE WHAT IT READS IS OF BULK AT MOST 1048576: true; the input reads as it did. -/
def fnExactSomeManyUptoRow : OpenClaim := { program := "ytkcikhjobgackaadoor", sum := "cdda67be618c1d2c7bd022e825f0dea92744d37edf22a117cadcc4c10f70a333", func := "loop.example/sigmaproofs/laws.FnExactSomeMany", spec := "fnExactSomeMany", named := ["loop.example/sigmaproofs/impl.groups"], apart := false, laid := [("loop.example/sigmaproofs/impl.groups", laid_loop_example_sigmaproofs_impl_groups)], narrowed := true }
def FnExactSomeManyUptoSaid : Prop := fnExactSomeManyUptoRow.holds Tryd.pinned (OpenSpec.upto fnExactSomeManySpec)

/-- 'laws.FnExactTalksBy', WHERE WHAT IT READS IS OF BULK AT MOST 1048576: true; the input reads as it did. -/
def fnExactTalksByUptoRow : OpenClaim := { program := "ytkcikhjobgackaadoor", sum := "cdda67be618c1d2c7bd022e825f0dea92744d37edf22a117cadcc4c10f70a333", func := "loop.example/sigmaproofs/laws.FnExactTalksBy", spec := "fnExactTalksBy", recurses := true, named := ["loop.example/sigmaproofs/impl.groups"], apart := false, laid := [("loop.example/sigmaproofs/impl.groups", laid_loop_example_sigmaproofs_impl_groups)], narrowed := true }
def FnExactTalksByUptoSaid : Prop := fnExactTalksByUptoRow.holds Tryd.pinned (OpenSpec.upto fnExactTalksBySpec)

/-- 'laws.FnExactClaimOk', WHERE WHAT IT READS IS OF BULK AT MOST 1048576: true; the input reads as it did. -/
def fnExactClaimOkUptoRow : OpenClaim := { program := "ytkcikhjobgackaadoor", sum := "cdda67be618c1d2c7bd022e825f0dea92744d37edf22a117cadcc4c10f70a333", func := "loop.example/sigmaproofs/laws.FnExactClaimOk", spec := "fnExactClaimOk", named := ["loop.example/sigmaproofs/impl.groups"], apart := false, laid := [("loop.example/sigmaproofs/impl.groups", laid_loop_example_sigmaproofs_impl_groups)], narrowed := true }
def FnExactClaimOkUptoSaid : Prop := fnExactClaimOkUptoRow.holds Tryd.pinned (OpenSpec.upto fnExactClaimOkSpec)

end Rows
end Go.Proofs.YtkcikhjobgackaaDoor
