/-
  NARROWER THAN 'FOR EVERY INPUT', by the rows' own cells (each row's printed sentence says how): FnExactKeyOf: laid · FnExactTalkOf: laid · FnExactTalkOk: laid · FnExactMadeUp: laid · FnExactSecretFrom: laid · FnExactTalksMany: laid.
  DERIVED. THE GIVEN ROWS OF THIS SEAT. 6 by the template 'for every input the law returns true; each argument reads behind the call as it read before'; 0 by the template 'total and deterministic' (their statements: YtacaeoalplggfabDoorTotals.lean).
  GIVEN WITH THE SEED: the statements are not yours to turn. If you find one false, say at which input.
  Laid BY PROGRAM, IN A SANDBOX (cutbox-rows.mjs): the forced cells as the released guide's own fill.sh prints them over the translation 740bae86f2c2ede9… (all of the seat's roots in one cut). By AI agents, Wed Nov 11 2026. No macro, syntax, notation, axiom, sorry.
-/
import Derived.Test.YtacaeoalplggfabDoorChecked
import GoSem.Claim
import GoSem.ClaimJoined
import GoSem.ClaimMapViews
import Derived.JoinedTies
import Derived.KernelRfl
namespace Go.Proofs.YtacaeoalplggfabDoor
/- THE CELL 'sum', in the pinned program and in every row, IS THE sha256 OF THE DUMP (.gsa) THAT YtacaeoalplggfabDoorProg.lean LOADS. Nothing in Lean hashes anything: it is a label: what it is worth is what the hold of that sum in a sandbox is worth. -/
noncomputable def Tryd.pinned : Pinned := { name := "ytacaeoalplggfabdoor", sum := "740bae86f2c2ede99d4a24b7e08c329a1a19e6af983ca98b2f125da4c906b55b", checked := Tryd.checked }
namespace Rows
def none {H : Type} : Left H := { results := [], args := [] }

/- WHAT THE LISTED PACKAGE-LEVEL VARIABLES READ AS WHEN THE CALL BEGINS. Each datum BY PROGRAM (the guide's laid-datum.mjs) off the statement by which the dump's own 'gosem.cut.vars' lays the variable. In a bare row this is a premise. The card (YtacaeoalplggfabDoorCards.lean) ties it to the program's text. -/
def laid_loop_example_sigmaproofs_impl_groups {H : Type} : DataW H := .agg [.agg [.lit (.int .i64 7), .lit (.int .i64 3), .lit (.int .i64 2)], .agg [.lit (.int .i64 11), .lit (.int .i64 5), .lit (.int .i64 3)], .agg [.lit (.int .i64 23), .lit (.int .i64 11), .lit (.int .i64 2)], .agg [.lit (.int .i64 47), .lit (.int .i64 23), .lit (.int .i64 2)]]

/-- 'laws.FnExactKeyOf': WHATEVER THE INPUT: true; the input reads as it did. -/
def fnExactKeyOfSpec : ChangeSpec := { name := "fnExactKeyOf", vars := ["loop.example/sigmaproofs/impl.groups"], fn := fun _ => fun
  | [d1, d2, g1] => { results := [.lit (.bool true)], args := [d1, d2], vars := [g1] }
  | _ => none }
def fnExactKeyOfRow : OpenClaim := { program := "ytacaeoalplggfabdoor", sum := "740bae86f2c2ede99d4a24b7e08c329a1a19e6af983ca98b2f125da4c906b55b", func := "loop.example/sigmaproofs/laws.FnExactKeyOf", spec := "fnExactKeyOf", named := ["loop.example/sigmaproofs/impl.groups"], apart := false, laid := [("loop.example/sigmaproofs/impl.groups", laid_loop_example_sigmaproofs_impl_groups)] }
def FnExactKeyOfSaid : Prop := fnExactKeyOfRow.holds Tryd.pinned (OpenSpec.ofChange fnExactKeyOfSpec)

/-- ITS FALSE NEIGHBOUR: 'it returns false'. Refute it at one input. -/
def fnExactKeyOfWrong : ChangeSpec := { name := "fnExactKeyOf", vars := ["loop.example/sigmaproofs/impl.groups"], fn := fun _ => fun
  | [d1, d2, g1] => { results := [.lit (.bool false)], args := [d1, d2], vars := [g1] }
  | _ => none }
def FnExactKeyOfWrongFalsely : Prop := fnExactKeyOfRow.holds Tryd.pinned (OpenSpec.ofChange fnExactKeyOfWrong)

/-- 'laws.FnExactTalkOf': WHATEVER THE INPUT: true; the input reads as it did. -/
def fnExactTalkOfSpec : ChangeSpec := { name := "fnExactTalkOf", vars := ["loop.example/sigmaproofs/impl.groups"], fn := fun _ => fun
  | [d1, d2, d3, d4, g1] => { results := [.lit (.bool true)], args := [d1, d2, d3, d4], vars := [g1] }
  | _ => none }
def fnExactTalkOfRow : OpenClaim := { program := "ytacaeoalplggfabdoor", sum := "740bae86f2c2ede99d4a24b7e08c329a1a19e6af983ca98b2f125da4c906b55b", func := "loop.example/sigmaproofs/laws.FnExactTalkOf", spec := "fnExactTalkOf", named := ["loop.example/sigmaproofs/impl.groups"], apart := false, laid := [("loop.example/sigmaproofs/impl.groups", laid_loop_example_sigmaproofs_impl_groups)] }
def FnExactTalkOfSaid : Prop := fnExactTalkOfRow.holds Tryd.pinned (OpenSpec.ofChange fnExactTalkOfSpec)

/-- ITS FALSE NEIGHBOUR: 'it returns false'. Refute it at one input. -/
def fnExactTalkOfWrong : ChangeSpec := { name := "fnExactTalkOf", vars := ["loop.example/sigmaproofs/impl.groups"], fn := fun _ => fun
  | [d1, d2, d3, d4, g1] => { results := [.lit (.bool false)], args := [d1, d2, d3, d4], vars := [g1] }
  | _ => none }
def FnExactTalkOfWrongFalsely : Prop := fnExactTalkOfRow.holds Tryd.pinned (OpenSpec.ofChange fnExactTalkOfWrong)

/-- 'laws.FnExactTalkOk': WHATEVER THE INPUT: true; the input reads as it did. -/
def fnExactTalkOkSpec : ChangeSpec := { name := "fnExactTalkOk", vars := ["loop.example/sigmaproofs/impl.groups"], fn := fun _ => fun
  | [d1, d2, d3, g1] => { results := [.lit (.bool true)], args := [d1, d2, d3], vars := [g1] }
  | _ => none }
def fnExactTalkOkRow : OpenClaim := { program := "ytacaeoalplggfabdoor", sum := "740bae86f2c2ede99d4a24b7e08c329a1a19e6af983ca98b2f125da4c906b55b", func := "loop.example/sigmaproofs/laws.FnExactTalkOk", spec := "fnExactTalkOk", named := ["loop.example/sigmaproofs/impl.groups"], apart := false, laid := [("loop.example/sigmaproofs/impl.groups", laid_loop_example_sigmaproofs_impl_groups)] }
def FnExactTalkOkSaid : Prop := fnExactTalkOkRow.holds Tryd.pinned (OpenSpec.ofChange fnExactTalkOkSpec)

/-- ITS FALSE NEIGHBOUR: 'it returns false'. Refute it at one input. -/
def fnExactTalkOkWrong : ChangeSpec := { name := "fnExactTalkOk", vars := ["loop.example/sigmaproofs/impl.groups"], fn := fun _ => fun
  | [d1, d2, d3, g1] => { results := [.lit (.bool false)], args := [d1, d2, d3], vars := [g1] }
  | _ => none }
def FnExactTalkOkWrongFalsely : Prop := fnExactTalkOkRow.holds Tryd.pinned (OpenSpec.ofChange fnExactTalkOkWrong)

/-- 'laws.FnExactMadeUp': WHATEVER THE INPUT: true; the input reads as it did. -/
def fnExactMadeUpSpec : ChangeSpec := { name := "fnExactMadeUp", vars := ["loop.example/sigmaproofs/impl.groups"], fn := fun _ => fun
  | [d1, d2, d3, d4, g1] => { results := [.lit (.bool true)], args := [d1, d2, d3, d4], vars := [g1] }
  | _ => none }
def fnExactMadeUpRow : OpenClaim := { program := "ytacaeoalplggfabdoor", sum := "740bae86f2c2ede99d4a24b7e08c329a1a19e6af983ca98b2f125da4c906b55b", func := "loop.example/sigmaproofs/laws.FnExactMadeUp", spec := "fnExactMadeUp", named := ["loop.example/sigmaproofs/impl.groups"], apart := false, laid := [("loop.example/sigmaproofs/impl.groups", laid_loop_example_sigmaproofs_impl_groups)] }
def FnExactMadeUpSaid : Prop := fnExactMadeUpRow.holds Tryd.pinned (OpenSpec.ofChange fnExactMadeUpSpec)

/-- ITS FALSE NEIGHBOUR: 'it returns false'. Refute it at one input. -/
def fnExactMadeUpWrong : ChangeSpec := { name := "fnExactMadeUp", vars := ["loop.example/sigmaproofs/impl.groups"], fn := fun _ => fun
  | [d1, d2, d3, d4, g1] => { results := [.lit (.bool false)], args := [d1, d2, d3, d4], vars := [g1] }
  | _ => none }
def FnExactMadeUpWrongFalsely : Prop := fnExactMadeUpRow.holds Tryd.pinned (OpenSpec.ofChange fnExactMadeUpWrong)

/-- 'laws.FnExactSecretFrom': WHATEVER THE INPUT: true; the input reads as it did. -/
def fnExactSecretFromSpec : ChangeSpec := { name := "fnExactSecretFrom", vars := ["loop.example/sigmaproofs/impl.groups"], fn := fun _ => fun
  | [d1, d2, d3, d4, g1] => { results := [.lit (.bool true)], args := [d1, d2, d3, d4], vars := [g1] }
  | _ => none }
def fnExactSecretFromRow : OpenClaim := { program := "ytacaeoalplggfabdoor", sum := "740bae86f2c2ede99d4a24b7e08c329a1a19e6af983ca98b2f125da4c906b55b", func := "loop.example/sigmaproofs/laws.FnExactSecretFrom", spec := "fnExactSecretFrom", named := ["loop.example/sigmaproofs/impl.groups"], apart := false, laid := [("loop.example/sigmaproofs/impl.groups", laid_loop_example_sigmaproofs_impl_groups)] }
def FnExactSecretFromSaid : Prop := fnExactSecretFromRow.holds Tryd.pinned (OpenSpec.ofChange fnExactSecretFromSpec)

/-- ITS FALSE NEIGHBOUR: 'it returns false'. Refute it at one input. -/
def fnExactSecretFromWrong : ChangeSpec := { name := "fnExactSecretFrom", vars := ["loop.example/sigmaproofs/impl.groups"], fn := fun _ => fun
  | [d1, d2, d3, d4, g1] => { results := [.lit (.bool false)], args := [d1, d2, d3, d4], vars := [g1] }
  | _ => none }
def FnExactSecretFromWrongFalsely : Prop := fnExactSecretFromRow.holds Tryd.pinned (OpenSpec.ofChange fnExactSecretFromWrong)

/-- 'laws.FnExactTalksMany': WHATEVER THE INPUT: true; the input reads as it did. -/
def fnExactTalksManySpec : ChangeSpec := { name := "fnExactTalksMany", vars := ["loop.example/sigmaproofs/impl.groups"], fn := fun _ => fun
  | [d1, d2, d3, d4, g1] => { results := [.lit (.bool true)], args := [d1, d2, d3, d4], vars := [g1] }
  | _ => none }
def fnExactTalksManyRow : OpenClaim := { program := "ytacaeoalplggfabdoor", sum := "740bae86f2c2ede99d4a24b7e08c329a1a19e6af983ca98b2f125da4c906b55b", func := "loop.example/sigmaproofs/laws.FnExactTalksMany", spec := "fnExactTalksMany", named := ["loop.example/sigmaproofs/impl.groups"], apart := false, laid := [("loop.example/sigmaproofs/impl.groups", laid_loop_example_sigmaproofs_impl_groups)] }
def FnExactTalksManySaid : Prop := fnExactTalksManyRow.holds Tryd.pinned (OpenSpec.ofChange fnExactTalksManySpec)

/-- ITS FALSE NEIGHBOUR: 'it returns false'. Refute it at one input. -/
def fnExactTalksManyWrong : ChangeSpec := { name := "fnExactTalksMany", vars := ["loop.example/sigmaproofs/impl.groups"], fn := fun _ => fun
  | [d1, d2, d3, d4, g1] => { results := [.lit (.bool false)], args := [d1, d2, d3, d4], vars := [g1] }
  | _ => none }
def FnExactTalksManyWrongFalsely : Prop := fnExactTalksManyRow.holds Tryd.pinned (OpenSpec.ofChange fnExactTalksManyWrong)

/- THE SECOND FORM. 'bulk': how many values and letters a reading holds, each counted each time it is reached (what is shared counts as often as it is met; a slice's spare places count too). A statement '..UptoSaid' is the law's where the arguments, and the package variables that the reading takes, are together of bulk at most 1048576: NARROWER than '..Said'. Prove '..Said' where nothing that the law and all that it calls make is longer than what came in: it says more and counts as full. Else prove '..UptoSaid'. A law counts once. -/
mutual
def uptoBulk {H : Type} : DataW H → Nat
  | .lit (.string bytes) => bytes.length + 1
  | .lit _ => 1
  | .nil => 1
  | .ptr d => uptoBulk d + 1
  | .slice elems spare => uptoBulkAll elems + uptoBulkAll spare + 1
  | .agg parts => uptoBulkAll parts + 1
  | .iface _ d => uptoBulk d + 1
  | .map entries => uptoBulkEntries entries + 1
  | .held _ => 1
def uptoBulkAll {H : Type} : List (DataW H) → Nat
  | [] => 0
  | d :: r => uptoBulk d + uptoBulkAll r
def uptoBulkEntries {H : Type} : List (Lit × DataW H) → Nat
  | [] => 0
  | x :: r => uptoBulkEntry x + uptoBulkEntries r
def uptoBulkEntry {H : Type} : Lit × DataW H → Nat
  | (.string bytes, d) => bytes.length + uptoBulk d + 1
  | (_, d) => uptoBulk d + 1
 end
def uptoSmall : (H : Type) → List (DataW H) → Bool := fun _ ds => decide (uptoBulkAll ds ≤ 1048576)
def OpenSpec.upto (s : _root_.Go.ChangeSpec) : _root_.Go.OpenSpec := { _root_.Go.OpenSpec.ofChange s with cond := some uptoSmall }

/-- 'laws.FnExactKeyOf', WHERE WHAT IT READS IS OF BULK AT MOST 1048576: true; the input reads as it did. -/
def fnExactKeyOfUptoRow : OpenClaim := { program := "ytacaeoalplggfabdoor", sum := "740bae86f2c2ede99d4a24b7e08c329a1a19e6af983ca98b2f125da4c906b55b", func := "loop.example/sigmaproofs/laws.FnExactKeyOf", spec := "fnExactKeyOf", named := ["loop.example/sigmaproofs/impl.groups"], apart := false, laid := [("loop.example/sigmaproofs/impl.groups", laid_loop_example_sigmaproofs_impl_groups)], narrowed := true }
def FnExactKeyOfUptoSaid : Prop := fnExactKeyOfUptoRow.holds Tryd.pinned (OpenSpec.upto fnExactKeyOfSpec)

/-- 'laws.FnExactTalkOf', WHERE WHAT IT READS IS OF BULK AT MOST 1048576: true; the input reads as it did. -/
def fnExactTalkOfUptoRow : OpenClaim := { program := "ytacaeoalplggfabdoor", sum := "740bae86f2c2ede99d4a24b7e08c329a1a19e6af983ca98b2f125da4c906b55b", func := "loop.example/sigmaproofs/laws.FnExactTalkOf", spec := "fnExactTalkOf", named := ["loop.example/sigmaproofs/impl.groups"], apart := false, laid := [("loop.example/sigmaproofs/impl.groups", laid_loop_example_sigmaproofs_impl_groups)], narrowed := true }
def FnExactTalkOfUptoSaid : Prop := fnExactTalkOfUptoRow.holds Tryd.pinned (OpenSpec.upto fnExactTalkOfSpec)

/-- 'laws.FnExactTalkOk', WHERE WHAT IT READS IS OF BULK AT MOST 1048576: true; the input reads as it did. -/
def fnExactTalkOkUptoRow : OpenClaim := { program := "ytacaeoalplggfabdoor", sum := "740bae86f2c2ede99d4a24b7e08c329a1a19e6af983ca98b2f125da4c906b55b", func := "loop.example/sigmaproofs/laws.FnExactTalkOk", spec := "fnExactTalkOk", named := ["loop.example/sigmaproofs/impl.groups"], apart := false, laid := [("loop.example/sigmaproofs/impl.groups", laid_loop_example_sigmaproofs_impl_groups)], narrowed := true }
def FnExactTalkOkUptoSaid : Prop := fnExactTalkOkUptoRow.holds Tryd.pinned (OpenSpec.upto fnExactTalkOkSpec)

/-- 'laws.FnExactMadeUp', WHERE WHAT IT READS IS OF BULK AT MOST 1048576: true; the input reads as it did. -/
def fnExactMadeUpUptoRow : OpenClaim := { program := "ytacaeoalplggfabdoor", sum := "740bae86f2c2ede99d4a24b7e08c329a1a19e6af983ca98b2f125da4c906b55b", func := "loop.example/sigmaproofs/laws.FnExactMadeUp", spec := "fnExactMadeUp", named := ["loop.example/sigmaproofs/impl.groups"], apart := false, laid := [("loop.example/sigmaproofs/impl.groups", laid_loop_example_sigmaproofs_impl_groups)], narrowed := true }
def FnExactMadeUpUptoSaid : Prop := fnExactMadeUpUptoRow.holds Tryd.pinned (OpenSpec.upto fnExactMadeUpSpec)

/-- 'laws.FnExactSecretFrom', WHERE WHAT IT READS IS OF BULK AT MOST 1048576: true; the input reads as it did. -/
def fnExactSecretFromUptoRow : OpenClaim := { program := "ytacaeoalplggfabdoor", sum := "740bae86f2c2ede99d4a24b7e08c329a1a19e6af983ca98b2f125da4c906b55b", func := "loop.example/sigmaproofs/laws.FnExactSecretFrom", spec := "fnExactSecretFrom", named := ["loop.example/sigmaproofs/impl.groups"], apart := false, laid := [("loop.example/sigmaproofs/impl.groups", laid_loop_example_sigmaproofs_impl_groups)], narrowed := true }
def FnExactSecretFromUptoSaid : Prop := fnExactSecretFromUptoRow.holds Tryd.pinned (OpenSpec.upto fnExactSecretFromSpec)

/-- 'laws.FnExactTalksMany', WHERE WHAT IT READS IS OF BULK AT MOST 1048576: true; the input reads as it did. -/
def fnExactTalksManyUptoRow : OpenClaim := { program := "ytacaeoalplggfabdoor", sum := "740bae86f2c2ede99d4a24b7e08c329a1a19e6af983ca98b2f125da4c906b55b", func := "loop.example/sigmaproofs/laws.FnExactTalksMany", spec := "fnExactTalksMany", named := ["loop.example/sigmaproofs/impl.groups"], apart := false, laid := [("loop.example/sigmaproofs/impl.groups", laid_loop_example_sigmaproofs_impl_groups)], narrowed := true }
def FnExactTalksManyUptoSaid : Prop := fnExactTalksManyUptoRow.holds Tryd.pinned (OpenSpec.upto fnExactTalksManySpec)

end Rows
end Go.Proofs.YtacaeoalplggfabDoor
