/-
  NARROWER THAN 'FOR EVERY INPUT', by the rows' own cells (each row's printed sentence says how): FnExactSomeOf: laid · FnExactTalksBy: laid · FnLinesUp: laid · FnSomeOk: laid · FnSomeOf: laid · FnSecretsFrom: laid · FnSomeMany: laid · FnTalksBy: laid.
  DERIVED. THE GIVEN ROWS OF THIS SEAT. 8 by the template 'for every input the law returns true; each argument reads behind the call as it read before'; 0 by the template 'total and deterministic' (their statements: YtacalanlepjljaaDoorTotals.lean).
  GIVEN WITH THE SEED: the statements are not yours to turn. If you find one false, say at which input.
  Laid BY PROGRAM, IN A SANDBOX (cutbox-rows.mjs): the forced cells as the released guide's own fill.sh prints them over the translation 08e32ff8f788dea8… (all of the seat's roots in one cut). By AI agents, Wed Nov 11 2026. No macro, syntax, notation, axiom, sorry.
-/
import Derived.Test.YtacalanlepjljaaDoorChecked
import GoSem.Claim
import GoSem.ClaimJoined
import GoSem.ClaimMapViews
import Derived.JoinedTies
import Derived.KernelRfl
namespace Go.Proofs.YtacalanlepjljaaDoor
/- THE CELL 'sum', in the pinned program and in every row, IS THE sha256 OF THE DUMP (.gsa) THAT YtacalanlepjljaaDoorProg.lean LOADS. Nothing in Lean hashes anything: it is a label: what it is worth is what the hold of that sum in a sandbox is worth. -/
noncomputable def Tryd.pinned : Pinned := { name := "ytacalanlepjljaadoor", sum := "08e32ff8f788dea852a34c5fe181a956e7deb698e47351219e2d1a12aeffc771", checked := Tryd.checked }
namespace Rows
def none {H : Type} : Left H := { results := [], args := [] }

/- WHAT THE LISTED PACKAGE-LEVEL VARIABLES READ AS WHEN THE CALL BEGINS. Each datum BY PROGRAM (the guide's laid-datum.mjs) off the statement by which the dump's own 'gosem.cut.vars' lays the variable. In a bare row this is a premise. The card (YtacalanlepjljaaDoorCards.lean) ties it to the program's text. -/
def laid_loop_example_sigmaproofs_impl_groups {H : Type} : DataW H := .agg [.agg [.lit (.int .i64 7), .lit (.int .i64 3), .lit (.int .i64 2)], .agg [.lit (.int .i64 11), .lit (.int .i64 5), .lit (.int .i64 3)], .agg [.lit (.int .i64 23), .lit (.int .i64 11), .lit (.int .i64 2)], .agg [.lit (.int .i64 47), .lit (.int .i64 23), .lit (.int .i64 2)]]

/-- 'laws.FnExactSomeOf': WHATEVER THE INPUT: true; the input reads as it did. -/
def fnExactSomeOfSpec : ChangeSpec := { name := "fnExactSomeOf", vars := ["loop.example/sigmaproofs/impl.groups"], fn := fun _ => fun
  | [d1, d2, d3, d4, d5, d6, d7, g1] => { results := [.lit (.bool true)], args := [d1, d2, d3, d4, d5, d6, d7], vars := [g1] }
  | _ => none }
def fnExactSomeOfRow : OpenClaim := { program := "ytacalanlepjljaadoor", sum := "08e32ff8f788dea852a34c5fe181a956e7deb698e47351219e2d1a12aeffc771", func := "loop.example/sigmaproofs/laws.FnExactSomeOf", spec := "fnExactSomeOf", named := ["loop.example/sigmaproofs/impl.groups"], apart := false, laid := [("loop.example/sigmaproofs/impl.groups", laid_loop_example_sigmaproofs_impl_groups)] }
def FnExactSomeOfSaid : Prop := fnExactSomeOfRow.holds Tryd.pinned (OpenSpec.ofChange fnExactSomeOfSpec)

/-- ITS FALSE NEIGHBOUR: 'it returns false'. Refute it at one input. -/
def fnExactSomeOfWrong : ChangeSpec := { name := "fnExactSomeOf", vars := ["loop.example/sigmaproofs/impl.groups"], fn := fun _ => fun
  | [d1, d2, d3, d4, d5, d6, d7, g1] => { results := [.lit (.bool false)], args := [d1, d2, d3, d4, d5, d6, d7], vars := [g1] }
  | _ => none }
def FnExactSomeOfWrongFalsely : Prop := fnExactSomeOfRow.holds Tryd.pinned (OpenSpec.ofChange fnExactSomeOfWrong)

/-- 'laws.FnExactTalksBy': WHATEVER THE INPUT: true; the input reads as it did. -/
def fnExactTalksBySpec : ChangeSpec := { name := "fnExactTalksBy", vars := ["loop.example/sigmaproofs/impl.groups"], fn := fun _ => fun
  | [d1, d2, d3, d4, g1] => { results := [.lit (.bool true)], args := [d1, d2, d3, d4], vars := [g1] }
  | _ => none }
def fnExactTalksByRow : OpenClaim := { program := "ytacalanlepjljaadoor", sum := "08e32ff8f788dea852a34c5fe181a956e7deb698e47351219e2d1a12aeffc771", func := "loop.example/sigmaproofs/laws.FnExactTalksBy", spec := "fnExactTalksBy", recurses := true, named := ["loop.example/sigmaproofs/impl.groups"], apart := false, laid := [("loop.example/sigmaproofs/impl.groups", laid_loop_example_sigmaproofs_impl_groups)] }
def FnExactTalksBySaid : Prop := fnExactTalksByRow.holds Tryd.pinned (OpenSpec.ofChange fnExactTalksBySpec)

/-- ITS FALSE NEIGHBOUR: 'it returns false'. Refute it at one input. -/
def fnExactTalksByWrong : ChangeSpec := { name := "fnExactTalksBy", vars := ["loop.example/sigmaproofs/impl.groups"], fn := fun _ => fun
  | [d1, d2, d3, d4, g1] => { results := [.lit (.bool false)], args := [d1, d2, d3, d4], vars := [g1] }
  | _ => none }
def FnExactTalksByWrongFalsely : Prop := fnExactTalksByRow.holds Tryd.pinned (OpenSpec.ofChange fnExactTalksByWrong)

/-- 'laws.FnLinesUp': WHATEVER THE INPUT: true; the input reads as it did. -/
def fnLinesUpSpec : ChangeSpec := { name := "fnLinesUp", vars := ["loop.example/sigmaproofs/impl.groups"], fn := fun _ => fun
  | [d, g1] => { results := [.lit (.bool true)], args := [d], vars := [g1] }
  | _ => none }
def fnLinesUpRow : OpenClaim := { program := "ytacalanlepjljaadoor", sum := "08e32ff8f788dea852a34c5fe181a956e7deb698e47351219e2d1a12aeffc771", func := "loop.example/sigmaproofs/laws.FnLinesUp", spec := "fnLinesUp", named := ["loop.example/sigmaproofs/impl.groups"], apart := false, laid := [("loop.example/sigmaproofs/impl.groups", laid_loop_example_sigmaproofs_impl_groups)] }
def FnLinesUpSaid : Prop := fnLinesUpRow.holds Tryd.pinned (OpenSpec.ofChange fnLinesUpSpec)

/-- ITS FALSE NEIGHBOUR: 'it returns false'. Refute it at one input. -/
def fnLinesUpWrong : ChangeSpec := { name := "fnLinesUp", vars := ["loop.example/sigmaproofs/impl.groups"], fn := fun _ => fun
  | [d, g1] => { results := [.lit (.bool false)], args := [d], vars := [g1] }
  | _ => none }
def FnLinesUpWrongFalsely : Prop := fnLinesUpRow.holds Tryd.pinned (OpenSpec.ofChange fnLinesUpWrong)

/-- 'laws.FnSomeOk': WHATEVER THE INPUT: true; the input reads as it did. -/
def fnSomeOkSpec : ChangeSpec := { name := "fnSomeOk", vars := ["loop.example/sigmaproofs/impl.groups"], fn := fun _ => fun
  | [d, g1] => { results := [.lit (.bool true)], args := [d], vars := [g1] }
  | _ => none }
def fnSomeOkRow : OpenClaim := { program := "ytacalanlepjljaadoor", sum := "08e32ff8f788dea852a34c5fe181a956e7deb698e47351219e2d1a12aeffc771", func := "loop.example/sigmaproofs/laws.FnSomeOk", spec := "fnSomeOk", named := ["loop.example/sigmaproofs/impl.groups"], apart := false, laid := [("loop.example/sigmaproofs/impl.groups", laid_loop_example_sigmaproofs_impl_groups)] }
def FnSomeOkSaid : Prop := fnSomeOkRow.holds Tryd.pinned (OpenSpec.ofChange fnSomeOkSpec)

/-- ITS FALSE NEIGHBOUR: 'it returns false'. Refute it at one input. -/
def fnSomeOkWrong : ChangeSpec := { name := "fnSomeOk", vars := ["loop.example/sigmaproofs/impl.groups"], fn := fun _ => fun
  | [d, g1] => { results := [.lit (.bool false)], args := [d], vars := [g1] }
  | _ => none }
def FnSomeOkWrongFalsely : Prop := fnSomeOkRow.holds Tryd.pinned (OpenSpec.ofChange fnSomeOkWrong)

/-- 'laws.FnSomeOf': WHATEVER THE INPUT: true; the input reads as it did. -/
def fnSomeOfSpec : ChangeSpec := { name := "fnSomeOf", vars := ["loop.example/sigmaproofs/impl.groups"], fn := fun _ => fun
  | [d, g1] => { results := [.lit (.bool true)], args := [d], vars := [g1] }
  | _ => none }
def fnSomeOfRow : OpenClaim := { program := "ytacalanlepjljaadoor", sum := "08e32ff8f788dea852a34c5fe181a956e7deb698e47351219e2d1a12aeffc771", func := "loop.example/sigmaproofs/laws.FnSomeOf", spec := "fnSomeOf", named := ["loop.example/sigmaproofs/impl.groups"], apart := false, laid := [("loop.example/sigmaproofs/impl.groups", laid_loop_example_sigmaproofs_impl_groups)] }
def FnSomeOfSaid : Prop := fnSomeOfRow.holds Tryd.pinned (OpenSpec.ofChange fnSomeOfSpec)

/-- ITS FALSE NEIGHBOUR: 'it returns false'. Refute it at one input. -/
def fnSomeOfWrong : ChangeSpec := { name := "fnSomeOf", vars := ["loop.example/sigmaproofs/impl.groups"], fn := fun _ => fun
  | [d, g1] => { results := [.lit (.bool false)], args := [d], vars := [g1] }
  | _ => none }
def FnSomeOfWrongFalsely : Prop := fnSomeOfRow.holds Tryd.pinned (OpenSpec.ofChange fnSomeOfWrong)

/-- 'laws.FnSecretsFrom': WHATEVER THE INPUT: true; the input reads as it did. -/
def fnSecretsFromSpec : ChangeSpec := { name := "fnSecretsFrom", vars := ["loop.example/sigmaproofs/impl.groups"], fn := fun _ => fun
  | [d, g1] => { results := [.lit (.bool true)], args := [d], vars := [g1] }
  | _ => none }
def fnSecretsFromRow : OpenClaim := { program := "ytacalanlepjljaadoor", sum := "08e32ff8f788dea852a34c5fe181a956e7deb698e47351219e2d1a12aeffc771", func := "loop.example/sigmaproofs/laws.FnSecretsFrom", spec := "fnSecretsFrom", named := ["loop.example/sigmaproofs/impl.groups"], apart := false, laid := [("loop.example/sigmaproofs/impl.groups", laid_loop_example_sigmaproofs_impl_groups)] }
def FnSecretsFromSaid : Prop := fnSecretsFromRow.holds Tryd.pinned (OpenSpec.ofChange fnSecretsFromSpec)

/-- ITS FALSE NEIGHBOUR: 'it returns false'. Refute it at one input. -/
def fnSecretsFromWrong : ChangeSpec := { name := "fnSecretsFrom", vars := ["loop.example/sigmaproofs/impl.groups"], fn := fun _ => fun
  | [d, g1] => { results := [.lit (.bool false)], args := [d], vars := [g1] }
  | _ => none }
def FnSecretsFromWrongFalsely : Prop := fnSecretsFromRow.holds Tryd.pinned (OpenSpec.ofChange fnSecretsFromWrong)

/-- 'laws.FnSomeMany': WHATEVER THE INPUT: true; the input reads as it did. -/
def fnSomeManySpec : ChangeSpec := { name := "fnSomeMany", vars := ["loop.example/sigmaproofs/impl.groups"], fn := fun _ => fun
  | [d, g1] => { results := [.lit (.bool true)], args := [d], vars := [g1] }
  | _ => none }
def fnSomeManyRow : OpenClaim := { program := "ytacalanlepjljaadoor", sum := "08e32ff8f788dea852a34c5fe181a956e7deb698e47351219e2d1a12aeffc771", func := "loop.example/sigmaproofs/laws.FnSomeMany", spec := "fnSomeMany", named := ["loop.example/sigmaproofs/impl.groups"], apart := false, laid := [("loop.example/sigmaproofs/impl.groups", laid_loop_example_sigmaproofs_impl_groups)] }
def FnSomeManySaid : Prop := fnSomeManyRow.holds Tryd.pinned (OpenSpec.ofChange fnSomeManySpec)

/-- ITS FALSE NEIGHBOUR: 'it returns false'. Refute it at one input. -/
def fnSomeManyWrong : ChangeSpec := { name := "fnSomeMany", vars := ["loop.example/sigmaproofs/impl.groups"], fn := fun _ => fun
  | [d, g1] => { results := [.lit (.bool false)], args := [d], vars := [g1] }
  | _ => none }
def FnSomeManyWrongFalsely : Prop := fnSomeManyRow.holds Tryd.pinned (OpenSpec.ofChange fnSomeManyWrong)

/-- 'laws.FnTalksBy': WHATEVER THE INPUT: true; the input reads as it did. -/
def fnTalksBySpec : ChangeSpec := { name := "fnTalksBy", vars := ["loop.example/sigmaproofs/impl.groups"], fn := fun _ => fun
  | [d, g1] => { results := [.lit (.bool true)], args := [d], vars := [g1] }
  | _ => none }
def fnTalksByRow : OpenClaim := { program := "ytacalanlepjljaadoor", sum := "08e32ff8f788dea852a34c5fe181a956e7deb698e47351219e2d1a12aeffc771", func := "loop.example/sigmaproofs/laws.FnTalksBy", spec := "fnTalksBy", recurses := true, named := ["loop.example/sigmaproofs/impl.groups"], apart := false, laid := [("loop.example/sigmaproofs/impl.groups", laid_loop_example_sigmaproofs_impl_groups)] }
def FnTalksBySaid : Prop := fnTalksByRow.holds Tryd.pinned (OpenSpec.ofChange fnTalksBySpec)

/-- ITS FALSE NEIGHBOUR: 'it returns false'. Refute it at one input. -/
def fnTalksByWrong : ChangeSpec := { name := "fnTalksBy", vars := ["loop.example/sigmaproofs/impl.groups"], fn := fun _ => fun
  | [d, g1] => { results := [.lit (.bool false)], args := [d], vars := [g1] }
  | _ => none }
def FnTalksByWrongFalsely : Prop := fnTalksByRow.holds Tryd.pinned (OpenSpec.ofChange fnTalksByWrong)

/- THE SECOND FORM. 'bulk': how many values and letters a reading holds, each counted each time it is reached (what is shared counts as often as it is met; a slice's spare places count too). A statement '..UptoSaid' is the law's where the arguments, and the package variables that the reading takes, are together of bulk at most 1048576: NARROWER than '..Said'. Prove '..Said' where nothing that the law and all that it calls make is longer than what came in: it says more and counts as full. Else prove '..UptoSaid'. A law counts once. -/
mutual
def uptoBulk {H : Type} : DataW H → Nat
  | .lit (.string bytes) => bytes.length + 1
  | .lit _ => 1
  | .nil => 1
  | .ptr d => uptoBulk d + 1
  | .slice elems spare => uptoBulkAll elems + uptoBulkAll spare + 1
  | .agg parts => uptoBulkAll parts + 1
  | .iface _ d => uptoBulk d + 1
  | .map entries => uptoBulkEntries entries + 1
  | .held _ => 1
def uptoBulkAll {H : Type} : List (DataW H) → Nat
  | [] => 0
  | d :: r => uptoBulk d + uptoBulkAll r
def uptoBulkEntries {H : Type} : List (Lit × DataW H) → Nat
  | [] => 0
  | x :: r => uptoBulkEntry x + uptoBulkEntries r
def uptoBulkEntry {H : Type} : Lit × DataW H → Nat
  | (.string bytes, d) => bytes.length + uptoBulk d + 1
  | (_, d) => uptoBulk d + 1
 end
def uptoSmall : (H : Type) → List (DataW H) → Bool := fun _ ds => decide (uptoBulkAll ds ≤ 1048576)
def OpenSpec.upto (s : _root_.Go.ChangeSpec) : _root_.Go.OpenSpec := { _root_.Go.OpenSpec.ofChange s with cond := some uptoSmall }

/-- 'laws.FnExactSomeOf', WHERE WHAT IT READS IS OF BULK AT MOST 1048576: true; the input reads as it did. -/
def fnExactSomeOfUptoRow : OpenClaim := { program := "ytacalanlepjljaadoor", sum := "08e32ff8f788dea852a34c5fe181a956e7deb698e47351219e2d1a12aeffc771", func := "loop.example/sigmaproofs/laws.FnExactSomeOf", spec := "fnExactSomeOf", named := ["loop.example/sigmaproofs/impl.groups"], apart := false, laid := [("loop.example/sigmaproofs/impl.groups", laid_loop_example_sigmaproofs_impl_groups)], narrowed := true }
def FnExactSomeOfUptoSaid : Prop := fnExactSomeOfUptoRow.holds Tryd.pinned (OpenSpec.upto fnExactSomeOfSpec)

/-- 'laws.FnExactTalksBy', WHERE WHAT IT READS IS OF BULK AT MOST 1048576: true; the input reads as it did. -/
def fnExactTalksByUptoRow : OpenClaim := { program := "ytacalanlepjljaadoor", sum := "08e32ff8f788dea852a34c5fe181a956e7deb698e47351219e2d1a12aeffc771", func := "loop.example/sigmaproofs/laws.FnExactTalksBy", spec := "fnExactTalksBy", recurses := true, named := ["loop.example/sigmaproofs/impl.groups"], apart := false, laid := [("loop.example/sigmaproofs/impl.groups", laid_loop_example_sigmaproofs_impl_groups)], narrowed := true }
def FnExactTalksByUptoSaid : Prop := fnExactTalksByUptoRow.holds Tryd.pinned (OpenSpec.upto fnExactTalksBySpec)

/-- 'laws.FnLinesUp', WHERE WHAT IT READS IS OF BULK AT MOST 1048576: true; the input reads as it did. -/
def fnLinesUpUptoRow : OpenClaim := { program := "ytacalanlepjljaadoor", sum := "08e32ff8f788dea852a34c5fe181a956e7deb698e47351219e2d1a12aeffc771", func := "loop.example/sigmaproofs/laws.FnLinesUp", spec := "fnLinesUp", named := ["loop.example/sigmaproofs/impl.groups"], apart := false, laid := [("loop.example/sigmaproofs/impl.groups", laid_loop_example_sigmaproofs_impl_groups)], narrowed := true }
def FnLinesUpUptoSaid : Prop := fnLinesUpUptoRow.holds Tryd.pinned (OpenSpec.upto fnLinesUpSpec)

/-- 'laws.FnSomeOk', WHERE WHAT IT READS IS OF BULK AT MOST 1048576: true; the input reads as it did. -/
def fnSomeOkUptoRow : OpenClaim := { program := "ytacalanlepjljaadoor", sum := "08e32ff8f788dea852a34c5fe181a956e7deb698e47351219e2d1a12aeffc771", func := "loop.example/sigmaproofs/laws.FnSomeOk", spec := "fnSomeOk", named := ["loop.example/sigmaproofs/impl.groups"], apart := false, laid := [("loop.example/sigmaproofs/impl.groups", laid_loop_example_sigmaproofs_impl_groups)], narrowed := true }
def FnSomeOkUptoSaid : Prop := fnSomeOkUptoRow.holds Tryd.pinned (OpenSpec.upto fnSomeOkSpec)

/-- 'laws.FnSomeOf', WHERE WHAT IT READS IS OF BULK AT MOST 1048576: true; the input reads as it did. -/
def fnSomeOfUptoRow : OpenClaim := { program := "ytacalanlepjljaadoor", sum := "08e32ff8f788dea852a34c5fe181a956e7deb698e47351219e2d1a12aeffc771", func := "loop.example/sigmaproofs/laws.FnSomeOf", spec := "fnSomeOf", named := ["loop.example/sigmaproofs/impl.groups"], apart := false, laid := [("loop.example/sigmaproofs/impl.groups", laid_loop_example_sigmaproofs_impl_groups)], narrowed := true }
def FnSomeOfUptoSaid : Prop := fnSomeOfUptoRow.holds Tryd.pinned (OpenSpec.upto fnSomeOfSpec)

/-- 'laws.FnSecretsFrom', WHERE WHAT IT READS IS OF BULK AT MOST 1048576: true; the input reads as it did. -/
def fnSecretsFromUptoRow : OpenClaim := { program := "ytacalanlepjljaadoor", sum := "08e32ff8f788dea852a34c5fe181a956e7deb698e47351219e2d1a12aeffc771", func := "loop.example/sigmaproofs/laws.FnSecretsFrom", spec := "fnSecretsFrom", named := ["loop.example/sigmaproofs/impl.groups"], apart := false, laid := [("loop.example/sigmaproofs/impl.groups", laid_loop_example_sigmaproofs_impl_groups)], narrowed := true }
def FnSecretsFromUptoSaid : Prop := fnSecretsFromUptoRow.holds Tryd.pinned (OpenSpec.upto fnSecretsFromSpec)

/-- 'laws.FnSomeMany', WHERE WHAT IT READS IS OF BULK AT MOST 1048576: true; the input reads as it did. -/
def fnSomeManyUptoRow : OpenClaim := { program := "ytacalanlepjljaadoor", sum := "08e32ff8f788dea852a34c5fe181a956e7deb698e47351219e2d1a12aeffc771", func := "loop.example/sigmaproofs/laws.FnSomeMany", spec := "fnSomeMany", named := ["loop.example/sigmaproofs/impl.groups"], apart := false, laid := [("loop.example/sigmaproofs/impl.groups", laid_loop_example_sigmaproofs_impl_groups)], narrowed := true }
def FnSomeManyUptoSaid : Prop := fnSomeManyUptoRow.holds Tryd.pinned (OpenSpec.upto fnSomeManySpec)

/-- 'laws.FnTalksBy', WHERE WHAT IT READS IS OF BULK AT MOST 1048576: true; the input reads as it did. -/
def fnTalksByUptoRow : OpenClaim := { program := "ytacalanlepjljaadoor", sum := "08e32ff8f788dea852a34c5fe181a956e7deb698e47351219e2d1a12aeffc771", func := "loop.example/sigmaproofs/laws.FnTalksBy", spec := "fnTalksBy", recurses := true, named := ["loop.example/sigmaproofs/impl.groups"], apart := false, laid := [("loop.example/sigmaproofs/impl.groups", laid_loop_example_sigmaproofs_impl_groups)], narrowed := true }
def FnTalksByUptoSaid : Prop := fnTalksByUptoRow.holds Tryd.pinned (OpenSpec.upto fnTalksBySpec)

end Rows
end Go.Proofs.YtacalanlepjljaaDoor
