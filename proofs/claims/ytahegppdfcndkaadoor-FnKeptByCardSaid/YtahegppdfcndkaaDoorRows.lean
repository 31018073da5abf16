/-
  NARROWER THAN 'FOR EVERY INPUT', by the rows' own cells (each row's printed sentence says how): FnHeardFrom: laid · FnKeptBy: laid.
  DERIVED. THE GIVEN ROWS OF THIS SEAT. 2 by the template 'for every input the law returns true; each argument reads behind the call as it read before'; 0 by the template 'total and deterministic' (their statements: YtahegppdfcndkaaDoorTotals.lean).
  GIVEN WITH THE SEED: the statements are not yours to turn. If you find one false, say at which input.
  Laid BY PROGRAM, IN A SANDBOX (cutbox-rows.mjs): the forced cells as the released guide's own fill.sh prints them over the translation 4eb3918fee80e0d4… (all of the seat's roots in one cut). By AI agents, Wed Nov 11 2026. No macro, syntax, notation, axiom, sorry.
-/
import Derived.Test.YtahegppdfcndkaaDoorChecked
import GoSem.Claim
import GoSem.ClaimJoined
import GoSem.ClaimMapViews
import Derived.JoinedTies
import Derived.KernelRfl
namespace Go.Proofs.YtahegppdfcndkaaDoor
/- THE CELL 'sum', in the pinned program and in every row, IS THE sha256 OF THE DUMP (.gsa) THAT YtahegppdfcndkaaDoorProg.lean LOADS. Nothing in Lean hashes anything: it is a label: what it is worth is what the hold of that sum in a sandbox is worth. -/
noncomputable def Tryd.pinned : Pinned := { name := "ytahegppdfcndkaadoor", sum := "4eb3918fee80e0d4953f9e6d1ca70e3a4153e4269a909024157564ee22aa2c70", checked := Tryd.checked }
namespace Rows
def none {H : Type} : Left H := { results := [], args := [] }

/- WHAT THE LISTED PACKAGE-LEVEL VARIABLES READ AS WHEN THE CALL BEGINS. Each datum BY PROGRAM (the guide's laid-datum.mjs) off the statement by which the dump's own 'gosem.cut.vars' lays the variable. In a bare row this is a premise. The card (YtahegppdfcndkaaDoorCards.lean) ties it to the program's text. -/
def laid_loop_example_sigmaproofs_impl_groups {H : Type} : DataW H := .agg [.agg [.lit (.int .i64 7), .lit (.int .i64 3), .lit (.int .i64 2)], .agg [.lit (.int .i64 11), .lit (.int .i64 5), .lit (.int .i64 3)], .agg [.lit (.int .i64 23), .lit (.int .i64 11), .lit (.int .i64 2)], .agg [.lit (.int .i64 47), .lit (.int .i64 23), .lit (.int .i64 2)]]

/-- 'laws.FnHeardFrom': WHATEVER THE INPUT: true; the input reads as it did. -/
def fnHeardFromSpec : ChangeSpec := { name := "fnHeardFrom", vars := ["loop.example/sigmaproofs/impl.groups"], fn := fun _ => fun
  | [d, g1] => { results := [.lit (.bool true)], args := [d], vars := [g1] }
  | _ => none }
def fnHeardFromRow : OpenClaim := { program := "ytahegppdfcndkaadoor", sum := "4eb3918fee80e0d4953f9e6d1ca70e3a4153e4269a909024157564ee22aa2c70", func := "loop.example/sigmaproofs/laws.FnHeardFrom", spec := "fnHeardFrom", unfollowed := true, recurses := true, named := ["loop.example/sigmaproofs/impl.groups"], apart := false, laid := [("loop.example/sigmaproofs/impl.groups", laid_loop_example_sigmaproofs_impl_groups)] }
def FnHeardFromSaid : Prop := fnHeardFromRow.holds Tryd.pinned (OpenSpec.ofChange fnHeardFromSpec)

/-- ITS FALSE NEIGHBOUR: 'it returns false'. Refute it at one input. -/
def fnHeardFromWrong : ChangeSpec := { name := "fnHeardFrom", vars := ["loop.example/sigmaproofs/impl.groups"], fn := fun _ => fun
  | [d, g1] => { results := [.lit (.bool false)], args := [d], vars := [g1] }
  | _ => none }
def FnHeardFromWrongFalsely : Prop := fnHeardFromRow.holds Tryd.pinned (OpenSpec.ofChange fnHeardFromWrong)

/-- 'laws.FnKeptBy': WHATEVER THE INPUT: true; the input reads as it did. -/
def fnKeptBySpec : ChangeSpec := { name := "fnKeptBy", vars := ["loop.example/sigmaproofs/impl.groups"], fn := fun _ => fun
  | [d, g1] => { results := [.lit (.bool true)], args := [d], vars := [g1] }
  | _ => none }
def fnKeptByRow : OpenClaim := { program := "ytahegppdfcndkaadoor", sum := "4eb3918fee80e0d4953f9e6d1ca70e3a4153e4269a909024157564ee22aa2c70", func := "loop.example/sigmaproofs/laws.FnKeptBy", spec := "fnKeptBy", unfollowed := true, recurses := true, named := ["loop.example/sigmaproofs/impl.groups"], apart := false, laid := [("loop.example/sigmaproofs/impl.groups", laid_loop_example_sigmaproofs_impl_groups)] }
def FnKeptBySaid : Prop := fnKeptByRow.holds Tryd.pinned (OpenSpec.ofChange fnKeptBySpec)

/-- ITS FALSE NEIGHBOUR: 'it returns false'. Refute it at one input. -/
def fnKeptByWrong : ChangeSpec := { name := "fnKeptBy", vars := ["loop.example/sigmaproofs/impl.groups"], fn := fun _ => fun
  | [d, g1] => { results := [.lit (.bool false)], args := [d], vars := [g1] }
  | _ => none }
def FnKeptByWrongFalsely : Prop := fnKeptByRow.holds Tryd.pinned (OpenSpec.ofChange fnKeptByWrong)

/- THE SECOND FORM. 'bulk': how many values and letters a reading holds, each counted each time it is reached (what is shared counts as often as it is met; a slice's spare places count too). A statement '..UptoSaid' is the law's where the arguments, and the package variables that the reading takes, are together of bulk at most 1048576: NARROWER than '..Said'. Prove '..Said' where nothing that the law and all that it calls make is longer than what came in: it says more and counts as full. Else prove '..UptoSaid'. A law counts once. -/
mutual
def uptoBulk {H : Type} : DataW H → Nat
  | .lit (.string bytes) => bytes.length + 1
  | .lit _ => 1
  | .nil => 1
  | .ptr d => uptoBulk d + 1
  | .slice elems spare => uptoBulkAll elems + uptoBulkAll spare + 1
  | .agg parts => uptoBulkAll parts + 1
  | .iface _ d => uptoBulk d + 1
  | .map entries => uptoBulkEntries entries + 1
  | .held _ => 1
def uptoBulkAll {H : Type} : List (DataW H) → Nat
  | [] => 0
  | d :: r => uptoBulk d + uptoBulkAll r
def uptoBulkEntries {H : Type} : List (Lit × DataW H) → Nat
  | [] => 0
  | x :: r => uptoBulkEntry x + uptoBulkEntries r
def uptoBulkEntry {H : Type} : Lit × DataW H → Nat
  | (.string bytes, d) => bytes.length + uptoBulk d + 1
  | (_, d) => uptoBulk d + 1
 end
def uptoSmall : (H : Type) → List (DataW H) → Bool := fun _ ds => decide (uptoBulkAll ds ≤ 1048576)
def OpenSpec.upto (s : _root_.Go.ChangeSpec) : _root_.Go.OpenSpec := { _root_.Go.OpenSpec.ofChange s with cond := some uptoSmall }

/-- 'laws.FnHeardFrom', WHERE WHAT IT READS IS OF BULK AT MOST 1048576: true; the input reads as it did. -/
def fnHeardFromUptoRow : OpenClaim := { program := "ytahegppdfcndkaadoor", sum := "4eb3918fee80e0d4953f9e6d1ca70e3a4153e4269a909024157564ee22aa2c70", func := "loop.example/sigmaproofs/laws.FnHeardFrom", spec := "fnHeardFrom", unfollowed := true, recurses := true, named := ["loop.example/sigmaproofs/impl.groups"], apart := false, laid := [("loop.example/sigmaproofs/impl.groups", laid_loop_example_sigmaproofs_impl_groups)], narrowed := true }
def FnHeardFromUptoSaid : Prop := fnHeardFromUptoRow.holds Tryd.pinned (OpenSpec.upto fnHeardFromSpec)

/-- 'laws.FnKeptBy', WHERE WHAT IT READS IS OF BULK AT MOST 1048576: true; the input reads as it did. -/
def fnKeptByUptoRow : OpenClaim := { program := "ytahegppdfcndkaadoor", sum := "4eb3918fee80e0d4953f9e6d1ca70e3a4153e4269a909024157564ee22aa2c70", func := "loop.example/sigmaproofs/laws.FnKeptBy", spec := "fnKeptBy", unfollowed := true, recurses := true, named := ["loop.example/sigmaproofs/impl.groups"], apart := false, laid := [("loop.example/sigmaproofs/impl.groups", laid_loop_example_sigmaproofs_impl_groups)], narrowed := true }
def FnKeptByUptoSaid : Prop := fnKeptByUptoRow.holds Tryd.pinned (OpenSpec.upto fnKeptBySpec)

end Rows
end Go.Proofs.YtahegppdfcndkaaDoor
