/-
  NARROWER THAN 'FOR EVERY INPUT', by the rows' own cells (each row's printed sentence says how): FnWordsOk: laid · FnExponentsFrom: laid · FnExactLinesUp: laid · FnExactSomeOk: laid · FnExactSomeOf: laid · FnExactSecretsFrom: laid · FnExactTalksBy: laid.
  DERIVED. THE GIVEN ROWS OF THIS SEAT. 7 by the template 'for every input the law returns true; each argument reads behind the call as it read before'; 0 by the template 'total and deterministic' (their statements: YtclihkcigppgjaaDoorTotals.lean).
  GIVEN WITH THE SEED: the statements are not yours to turn. If you find one false, say at which input.
  Laid BY PROGRAM, IN A SANDBOX (cutbox-rows.mjs): the forced cells as the released guide's own fill.sh prints them over the translation 1e4e580ba19533d6… (all of the seat's roots in one cut). By AI agents, Wed Nov 11 2026. No macro, syntax, notation, axiom, sorry.
-/
import Derived.Test.YtclihkcigppgjaaDoorChecked
import GoSem.Claim
import GoSem.ClaimJoined
import GoSem.ClaimMapViews
import Derived.JoinedTies
import Derived.KernelRfl
namespace Go.Proofs.YtclihkcigppgjaaDoor
/- THE CELL 'sum', in the pinned program and in every row, IS THE sha256 OF THE DUMP (.gsa) THAT YtclihkcigppgjaaDoorProg.lean LOADS. Nothing in Lean hashes anything: it is a label: what it is worth is what the hold of that sum in a sandbox is worth. -/
noncomputable def Tryd.pinned : Pinned := { name := "ytclihkcigppgjaadoor", sum := "1e4e580ba19533d65610e48bce772e468a2e97cd39a77c404a67cfc3fed3ebda", checked := Tryd.checked }
namespace Rows
def none {H : Type} : Left H := { results := [], args := [] }

/- WHAT THE LISTED PACKAGE-LEVEL VARIABLES READ AS WHEN THE CALL BEGINS. Each datum BY PROGRAM (the guide's laid-datum.mjs) off the statement by which the dump's own 'gosem.cut.vars' lays the variable. In a bare row this is a premise. The card (YtclihkcigppgjaaDoorCards.lean) ties it to the program's text. -/
def laid_loop_example_sigmaproofs_impl_groups {H : Type} : DataW H := .agg [.agg [.lit (.int .i64 7), .lit (.int .i64 3), .lit (.int .i64 2)], .agg [.lit (.int .i64 11), .lit (.int .i64 5), .lit (.int .i64 3)], .agg [.lit (.int .i64 23), .lit (.int .i64 11), .lit (.int .i64 2)], .agg [.lit (.int .i64 47), .lit (.int .i64 23), .lit (.int .i64 2)]]

/-- 'laws.FnWordsOk': WHATEVER THE INPUT: true; the input reads as it did. -/
def fnWordsOkSpec : ChangeSpec := { name := "fnWordsOk", vars := ["loop.example/sigmaproofs/impl.groups"], fn := fun _ => fun
  | [d, g1] => { results := [.lit (.bool true)], args := [d], vars := [g1] }
  | _ => none }
def fnWordsOkRow : OpenClaim := { program := "ytclihkcigppgjaadoor", sum := "1e4e580ba19533d65610e48bce772e468a2e97cd39a77c404a67cfc3fed3ebda", func := "loop.example/sigmaproofs/laws.FnWordsOk", spec := "fnWordsOk", named := ["loop.example/sigmaproofs/impl.groups"], apart := false, laid := [("loop.example/sigmaproofs/impl.groups", laid_loop_example_sigmaproofs_impl_groups)] }
def FnWordsOkSaid : Prop := fnWordsOkRow.holds Tryd.pinned (OpenSpec.ofChange fnWordsOkSpec)

/-- ITS FALSE NEIGHBOUR: 'it returns false'. Refute it at one input. -/
def fnWordsOkWrong : ChangeSpec := { name := "fnWordsOk", vars := ["loop.example/sigmaproofs/impl.groups"], fn := fun _ => fun
  | [d, g1] => { results := [.lit (.bool false)], args := [d], vars := [g1] }
  | _ => none }
def FnWordsOkWrongFalsely : Prop := fnWordsOkRow.holds Tryd.pinned (OpenSpec.ofChange fnWordsOkWrong)

/-- 'laws.FnExponentsFrom': WHATEVER THE INPUT: true; the input reads as it did. -/
def fnExponentsFromSpec : ChangeSpec := { name := "fnExponentsFrom", vars := ["loop.example/sigmaproofs/impl.groups"], fn := fun _ => fun
  | [d, g1] => { results := [.lit (.bool true)], args := [d], vars := [g1] }
  | _ => none }
def fnExponentsFromRow : OpenClaim := { program := "ytclihkcigppgjaadoor", sum := "1e4e580ba19533d65610e48bce772e468a2e97cd39a77c404a67cfc3fed3ebda", func := "loop.example/sigmaproofs/laws.FnExponentsFrom", spec := "fnExponentsFrom", named := ["loop.example/sigmaproofs/impl.groups"], apart := false, laid := [("loop.example/sigmaproofs/impl.groups", laid_loop_example_sigmaproofs_impl_groups)] }
def FnExponentsFromSaid : Prop := fnExponentsFromRow.holds Tryd.pinned (OpenSpec.ofChange fnExponentsFromSpec)

/-- ITS FALSE NEIGHBOUR: 'it returns false'. Refute it at one input. -/
def fnExponentsFromWrong : ChangeSpec := { name := "fnExponentsFrom", vars := ["loop.example/sigmaproofs/impl.groups"], fn := fun _ => fun
  | [d, g1] => { results := [.lit (.bool false)], args := [d], vars := [g1] }
  | _ => none }
def FnExponentsFromWrongFalsely : Prop := fnExponentsFromRow.holds Tryd.pinned (OpenSpec.ofChange fnExponentsFromWrong)

/-- 'laws.FnExactLinesUp': WHATEVER THE INPUT: true; the input reads as it did. -/
def fnExactLinesUpSpec : ChangeSpec := { name := "fnExactLinesUp", vars := ["loop.example/sigmaproofs/impl.groups"], fn := fun _ => fun
  | [d1, d2, d3, d4, g1] => { results := [.lit (.bool true)], args := [d1, d2, d3, d4], vars := [g1] }
  | _ => none }
def fnExactLinesUpRow : OpenClaim := { program := "ytclihkcigppgjaadoor", sum := "1e4e580ba19533d65610e48bce772e468a2e97cd39a77c404a67cfc3fed3ebda", func := "loop.example/sigmaproofs/laws.FnExactLinesUp", spec := "fnExactLinesUp", named := ["loop.example/sigmaproofs/impl.groups"], apart := false, laid := [("loop.example/sigmaproofs/impl.groups", laid_loop_example_sigmaproofs_impl_groups)] }
def FnExactLinesUpSaid : Prop := fnExactLinesUpRow.holds Tryd.pinned (OpenSpec.ofChange fnExactLinesUpSpec)

/-- ITS FALSE NEIGHBOUR: 'it returns false'. Refute it at one input. -/
def fnExactLinesUpWrong : ChangeSpec := { name := "fnExactLinesUp", vars := ["loop.example/sigmaproofs/impl.groups"], fn := fun _ => fun
  | [d1, d2, d3, d4, g1] => { results := [.lit (.bool false)], args := [d1, d2, d3, d4], vars := [g1] }
  | _ => none }
def FnExactLinesUpWrongFalsely : Prop := fnExactLinesUpRow.holds Tryd.pinned (OpenSpec.ofChange fnExactLinesUpWrong)

/-- 'laws.FnExactSomeOk': WHATEVER THE INPUT: true; the input reads as it did. -/
def fnExactSomeOkSpec : ChangeSpec := { name := "fnExactSomeOk", vars := ["loop.example/sigmaproofs/impl.groups"], fn := fun _ => fun
  | [d1, d2, d3, d4, g1] => { results := [.lit (.bool true)], args := [d1, d2, d3, d4], vars := [g1] }
  | _ => none }
def fnExactSomeOkRow : OpenClaim := { program := "ytclihkcigppgjaadoor", sum := "1e4e580ba19533d65610e48bce772e468a2e97cd39a77c404a67cfc3fed3ebda", func := "loop.example/sigmaproofs/laws.FnExactSomeOk", spec := "fnExactSomeOk", named := ["loop.example/sigmaproofs/impl.groups"], apart := false, laid := [("loop.example/sigmaproofs/impl.groups", laid_loop_example_sigmaproofs_impl_groups)] }
def FnExactSomeOkSaid : Prop := fnExactSomeOkRow.holds Tryd.pinned (OpenSpec.ofChange fnExactSomeOkSpec)

/-- ITS FALSE NEIGHBOUR: 'it returns false'. Refute it at one input. -/
def fnExactSomeOkWrong : ChangeSpec := { name := "fnExactSomeOk", vars := ["loop.example/sigmaproofs/impl.groups"], fn := fun _ => fun
  | [d1, d2, d3, d4, g1] => { results := [.lit (.bool false)], args := [d1, d2, d3, d4], vars := [g1] }
  | _ => none }
def FnExactSomeOkWrongFalsely : Prop := fnExactSomeOkRow.holds Tryd.pinned (OpenSpec.ofChange fnExactSomeOkWrong)

/-- 'laws.FnExactSomeOf': WHATEVER THE INPUT: true; the input reads as it did. -/
def fnExactSomeOfSpec : ChangeSpec := { name := "fnExactSomeOf", vars := ["loop.example/sigmaproofs/impl.groups"], fn := fun _ => fun
  | [d1, d2, d3, d4, d5, d6, d7, g1] => { results := [.lit (.bool true)], args := [d1, d2, d3, d4, d5, d6, d7], vars := [g1] }
  | _ => none }
def fnExactSomeOfRow : OpenClaim := { program := "ytclihkcigppgjaadoor", sum := "1e4e580ba19533d65610e48bce772e468a2e97cd39a77c404a67cfc3fed3ebda", func := "loop.example/sigmaproofs/laws.FnExactSomeOf", spec := "fnExactSomeOf", named := ["loop.example/sigmaproofs/impl.groups"], apart := false, laid := [("loop.example/sigmaproofs/impl.groups", laid_loop_example_sigmaproofs_impl_groups)] }
def FnExactSomeOfSaid : Prop := fnExactSomeOfRow.holds Tryd.pinned (OpenSpec.ofChange fnExactSomeOfSpec)

/-- ITS FALSE NEIGHBOUR: 'it returns false'. Refute it at one input. -/
def fnExactSomeOfWrong : ChangeSpec := { name := "fnExactSomeOf", vars := ["loop.example/sigmaproofs/impl.groups"], fn := fun _ => fun
  | [d1, d2, d3, d4, d5, d6, d7, g1] => { results := [.lit (.bool false)], args := [d1, d2, d3, d4, d5, d6, d7], vars := [g1] }
  | _ => none }
def FnExactSomeOfWrongFalsely : Prop := fnExactSomeOfRow.holds Tryd.pinned (OpenSpec.ofChange fnExactSomeOfWrong)

/-- 'laws.FnExactSecretsFrom': WHATEVER THE INPUT: true; the input reads as it did. -/
def fnExactSecretsFromSpec : ChangeSpec := { name := "fnExactSecretsFrom", vars := ["loop.example/sigmaproofs/impl.groups"], fn := fun _ => fun
  | [d1, d2, d3, d4, d5, g1] => { results := [.lit (.bool true)], args := [d1, d2, d3, d4, d5], vars := [g1] }
  | _ => none }
def fnExactSecretsFromRow : OpenClaim := { program := "ytclihkcigppgjaadoor", sum := "1e4e580ba19533d65610e48bce772e468a2e97cd39a77c404a67cfc3fed3ebda", func := "loop.example/sigmaproofs/laws.FnExactSecretsFrom", spec := "fnExactSecretsFrom", named := ["loop.example/sigmaproofs/impl.groups"], apart := false, laid := [("loop.example/sigmaproofs/impl.groups", laid_loop_example_sigmaproofs_impl_groups)] }
def FnExactSecretsFromSaid : Prop := fnExactSecretsFromRow.holds Tryd.pinned (OpenSpec.ofChange fnExactSecretsFromSpec)

/-- ITS FALSE NEIGHBOUR: 'it returns false'. Refute it at one input. -/
def fnExactSecretsFromWrong : ChangeSpec := { name := "fnExactSecretsFrom", vars := ["loop.example/sigmaproofs/impl.groups"], fn := fun _ => fun
  | [d1, d2, d3, d4, d5, g1] => { results := [.lit (.bool false)], args := [d1, d2, d3, d4, d5], vars := [g1] }
  | _ => none }
def FnExactSecretsFromWrongFalsely : Prop := fnExactSecretsFromRow.holds Tryd.pinned (OpenSpec.ofChange fnExactSecretsFromWrong)

/-- 'laws.FnExactTalksBy': WHATEVER THE INPUT: true; the input reads as it did. -/
def fnExactTalksBySpec : ChangeSpec := { name := "fnExactTalksBy", vars := ["loop.example/sigmaproofs/impl.groups"], fn := fun _ => fun
  | [d1, d2, d3, d4, g1] => { results := [.lit (.bool true)], args := [d1, d2, d3, d4], vars := [g1] }
  | _ => none }
def fnExactTalksByRow : OpenClaim := { program := "ytclihkcigppgjaadoor", sum := "1e4e580ba19533d65610e48bce772e468a2e97cd39a77c404a67cfc3fed3ebda", func := "loop.example/sigmaproofs/laws.FnExactTalksBy", spec := "fnExactTalksBy", recurses := true, named := ["loop.example/sigmaproofs/impl.groups"], apart := false, laid := [("loop.example/sigmaproofs/impl.groups", laid_loop_example_sigmaproofs_impl_groups)] }
def FnExactTalksBySaid : Prop := fnExactTalksByRow.holds Tryd.pinned (OpenSpec.ofChange fnExactTalksBySpec)

/-- ITS FALSE NEIGHBOUR: 'it returns false'. Refute it at one input. -/
def fnExactTalksByWrong : ChangeSpec := { name := "fnExactTalksBy", vars := ["loop.example/sigmaproofs/impl.groups"], fn := fun _ => fun
  | [d1, d2, d3, d4, g1] => { results := [.lit (.bool false)], args := [d1, d2, d3, d4], vars := [g1] }
  | _ => none }
def FnExactTalksByWrongFalsely : Prop := fnExactTalksByRow.holds Tryd.pinned (OpenSpec.ofChange fnExactTalksByWrong)

/- THE SECOND FORM. 'bulk': how many values and letters a reading holds, each counted each time it is reached (what is shared counts as often as it is met; a slice's spare places count too). A statement '..UptoSaid' is the law's where the arguments, and the package variables that the reading takes, are together of bulk at most 1048576: NARROWER than '..Said'. Prove '..Said' where nothing that the law and all that it calls make is longer than what came in: it says more and counts as full. Else prove '..UptoSaid'. A law counts once. -/
mutual
def uptoBulk {H : Type} : DataW H → Nat
  | .lit (.string bytes) => bytes.length + 1
  | .lit _ => 1
  | .nil => 1
  | .ptr d => uptoBulk d + 1
  | .slice elems spare => uptoBulkAll elems + uptoBulkAll spare + 1
  | .agg parts => uptoBulkAll parts + 1
  | .iface _ d => uptoBulk d + 1
  | .map entries => uptoBulkEntries entries + 1
  | .held _ => 1
def uptoBulkAll {H : Type} : List (DataW H) → Nat
  | [] => 0
  | d :: r => uptoBulk d + uptoBulkAll r
def uptoBulkEntries {H : Type} : List (Lit × DataW H) → Nat
  | [] => 0
  | x :: r => uptoBulkEntry x + uptoBulkEntries r
def uptoBulkEntry {H : Type} : Lit × DataW H → Nat
  | (.string bytes, d) => bytes.length + uptoBulk d + 1
  | (_, d) => uptoBulk d + 1
 end
def uptoSmall : (H : Type) → List (DataW H) → Bool := fun _ ds => decide (uptoBulkAll ds ≤ 1048576)
def OpenSpec.upto (s : _root_.Go.ChangeSpec) : _root_.Go.OpenSpec := { _root_.Go.OpenSpec.ofChange s with cond := some uptoSmall }

/-- 'laws.FnWordsOk', WHERE WHAT IT READS IS OF BULK AT MOST 1048576: true; the input reads as it did. -/
def fnWordsOkUptoRow : OpenClaim := { program := "ytclihkcigppgjaadoor", sum := "1e4e580ba19533d65610e48bce772e468a2e97cd39a77c404a67cfc3fed3ebda", func := "loop.example/sigmaproofs/laws.FnWordsOk", spec := "fnWordsOk", named := ["loop.example/sigmaproofs/impl.groups"], apart := false, laid := [("loop.example/sigmaproofs/impl.groups", laid_loop_example_sigmaproofs_impl_groups)], narrowed := true }
def FnWordsOkUptoSaid : Prop := fnWordsOkUptoRow.holds Tryd.pinned (OpenSpec.upto fnWordsOkSpec)

/-- 'laws.FnExponentsFrom', WHERE WHAT IT READS IS OF BULK AT MOST 1048576: true; the input reads as it did. -/
def fnExponentsFromUptoRow : OpenClaim := { program := "ytclihkcigppgjaadoor", sum := "1e4e580ba19533d65610e48bce772e468a2e97cd39a77c404a67cfc3fed3ebda", func := "loop.example/sigmaproofs/laws.FnExponentsFrom", spec := "fnExponentsFrom", named := ["loop.example/sigmaproofs/impl.groups"], apart := false, laid := [("loop.example/sigmaproofs/impl.groups", laid_loop_example_sigmaproofs_impl_groups)], narrowed := true }
def FnExponentsFromUptoSaid : Prop := fnExponentsFromUptoRow.holds Tryd.pinned (OpenSpec.upto fnExponentsFromSpec)

/-- 'laws.FnExactLinesUp', WHERE WHAT IT READS IS OF BULK AT MOST 1048576: true; the input reads as it did. -/
def fnExactLinesUpUptoRow : OpenClaim := { program := "ytclihkcigppgjaadoor", sum := "1e4e580ba19533d65610e48bce772e468a2e97cd39a77c404a67cfc3fed3ebda", func := "loop.example/sigmaproofs/laws.FnExactLinesUp", spec := "fnExactLinesUp", named := ["loop.example/sigmaproofs/impl.groups"], apart := false, laid := [("loop.example/sigmaproofs/impl.groups", laid_loop_example_sigmaproofs_impl_groups)], narrowed := true }
def FnExactLinesUpUptoSaid : Prop := fnExactLinesUpUptoRow.holds Tryd.pinned (OpenSpec.upto fnExactLinesUpSpec)

/-- 'laws.FnExactSomeOk', WHERE WHAT IT READS IS OF BULK AT MOST 1048576: true; the input reads as it did. -/
def fnExactSomeOkUptoRow : OpenClaim := { program := "ytclihkcigppgjaadoor", sum := "1e4e580ba19533d65610e48bce772e468a2e97cd39a77c404a67cfc3fed3ebda", func := "loop.example/sigmaproofs/laws.FnExactSomeOk", spec := "fnExactSomeOk", named := ["loop.example/sigmaproofs/impl.groups"], apart := false, laid := [("loop.example/sigmaproofs/impl.groups", laid_loop_example_sigmaproofs_impl_groups)], narrowed := true }
def FnExactSomeOkUptoSaid : Prop := fnExactSomeOkUptoRow.holds Tryd.pinned (OpenSpec.upto fnExactSomeOkSpec)

/-- 'laws.FnExactSomeOf', WHERE WHAT IT READS IS OF BULK AT MOST 1048576: true; the input reads as it did. -/
def fnExactSomeOfUptoRow : OpenClaim := { program := "ytclihkcigppgjaadoor", sum := "1e4e580ba19533d65610e48bce772e468a2e97cd39a77c404a67cfc3fed3ebda", func := "loop.example/sigmaproofs/laws.FnExactSomeOf", spec := "fnExactSomeOf", named := ["loop.example/sigmaproofs/impl.groups"], apart := false, laid := [("loop.example/sigmaproofs/impl.groups", laid_loop_example_sigmaproofs_impl_groups)], narrowed := true }
def FnExactSomeOfUptoSaid : Prop := fnExactSomeOfUptoRow.holds Tryd.pinned (OpenSpec.upto fnExactSomeOfSpec)

/-- 'laws.FnExactSecretsFrom', WHERE WHAT IT READS IS OF BULK AT MOST 1048576: true; the input reads as it did. -/
def fnExactSecretsFromUptoRow : OpenClaim := { program := "ytclihkcigppgjaadoor", sum := "1e4e580ba19533d65610e48bce772e468a2e97cd39a77c404a67cfc3fed3ebda", func := "loop.example/sigmaproofs/laws.FnExactSecretsFrom", spec := "fnExactSecretsFrom", named := ["loop.example/sigmaproofs/impl.groups"], apart := false, laid := [("loop.example/sigmaproofs/impl.groups", laid_loop_example_sigmaproofs_impl_groups)], narrowed := true }
def FnExactSecretsFromUptoSaid : Prop := fnExactSecretsFromUptoRow.holds Tryd.pinned (OpenSpec.upto fnExactSecretsFromSpec)

/-- 'laws.FnExactTalksBy', WHERE WHAT IT READS IS OF BULK AT MOST 1048576: true; the input reads as it did. -/
def fnExactTalksByUptoRow : OpenClaim := { program := "ytclihkcigppgjaadoor", sum := "1e4e580ba19533d65610e48bce772e468a2e97cd39a77c404a67cfc3fed3ebda", func := "loop.example/sigmaproofs/laws.FnExactTalksBy", spec := "fnExactTalksBy", recurses := true, named := ["loop.example/sigmaproofs/impl.groups"], apart := false, laid := [("loop.example/sigmaproofs/impl.groups", laid_loop_example_sigmaproofs_impl_groups)], narrowed := true }
def FnExactTalksByUptoSaid : Prop := fnExactTalksByUptoRow.holds Tryd.pinned (OpenSpec.upto fnExactTalksBySpec)

end Rows
end Go.Proofs.YtclihkcigppgjaaDoor
