/-
  NARROWER THAN 'FOR EVERY INPUT', by the rows' own cells (each row's printed sentence says how): FnExactBoardOk: laid · FnExactKeysOn: laid · FnExactLeakOf: laid · FnBoardOk: laid · FnBoardNew: laid · FnKeysOn: laid · FnLeakOf: laid.
  DERIVED. THE GIVEN ROWS OF THIS SEAT. 7 by the template 'for every input the law returns true; each argument reads behind the call as it read before'; 0 by the template 'total and deterministic' (their statements: YtiinifcepcaonaaDoorTotals.lean).
  GIVEN WITH THE SEED: the statements are not yours to turn. If you find one false, say at which input.
  Laid BY PROGRAM, IN A SANDBOX (cutbox-rows.mjs): the forced cells as the released guide's own fill.sh prints them over the translation d0962f5716636746… (all of the seat's roots in one cut). By AI agents, Wed Nov 11 2026. No macro, syntax, notation, axiom, sorry.
-/
import Derived.Test.YtiinifcepcaonaaDoorChecked
import GoSem.Claim
import GoSem.ClaimJoined
import GoSem.ClaimMapViews
import Derived.JoinedTies
import Derived.KernelRfl
namespace Go.Proofs.YtiinifcepcaonaaDoor
/- THE CELL 'sum', in the pinned program and in every row, IS THE sha256 OF THE DUMP (.gsa) THAT YtiinifcepcaonaaDoorProg.lean LOADS. Nothing in Lean hashes anything: it is a label: what it is worth is what the hold of that sum in a sandbox is worth. -/
noncomputable def Tryd.pinned : Pinned := { name := "ytiinifcepcaonaadoor", sum := "d0962f5716636746bbdf2761a5fec1457c1ac01e7cd7d6843afe309ff5822f6b", checked := Tryd.checked }
namespace Rows
def none {H : Type} : Left H := { results := [], args := [] }

/- WHAT THE LISTED PACKAGE-LEVEL VARIABLES READ AS WHEN THE CALL BEGINS. Each datum BY PROGRAM (the guide's laid-datum.mjs) off the statement by which the dump's own 'gosem.cut.vars' lays the variable. In a bare row this is a premise. The card (YtiinifcepcaonaaDoorCards.lean) ties it to the program's text. -/
def laid_loop_example_sigmaproofs_impl_groups {H : Type} : DataW H := .agg [.agg [.lit (.int .i64 7), .lit (.int .i64 3), .lit (.int .i64 2)], .agg [.lit (.int .i64 11), .lit (.int .i64 5), .lit (.int .i64 3)], .agg [.lit (.int .i64 23), .lit (.int .i64 11), .lit (.int .i64 2)], .agg [.lit (.int .i64 47), .lit (.int .i64 23), .lit (.int .i64 2)]]

/-- 'laws.FnExactBoardOk': WHATEVER THE INPUT: true; the input reads as it did. -/
def fnExactBoardOkSpec : ChangeSpec := { name := "fnExactBoardOk", vars := ["loop.example/sigmaproofs/impl.groups"], fn := fun _ => fun
  | [d, g1] => { results := [.lit (.bool true)], args := [d], vars := [g1] }
  | _ => none }
def fnExactBoardOkRow : OpenClaim := { program := "ytiinifcepcaonaadoor", sum := "d0962f5716636746bbdf2761a5fec1457c1ac01e7cd7d6843afe309ff5822f6b", func := "loop.example/sigmaproofs/laws.FnExactBoardOk", spec := "fnExactBoardOk", named := ["loop.example/sigmaproofs/impl.groups"], apart := false, laid := [("loop.example/sigmaproofs/impl.groups", laid_loop_example_sigmaproofs_impl_groups)] }
def FnExactBoardOkSaid : Prop := fnExactBoardOkRow.holds Tryd.pinned (OpenSpec.ofChange fnExactBoardOkSpec)

/-- ITS FALSE NEIGHBOUR: 'it returns false'. Refute it at one input. -/
def fnExactBoardOkWrong : ChangeSpec := { name := "fnExactBoardOk", vars := ["loop.example/sigmaproofs/impl.groups"], fn := fun _ => fun
  | [d, g1] => { results := [.lit (.bool false)], args := [d], vars := [g1] }
  | _ => none }
def FnExactBoardOkWrongFalsely : Prop := fnExactBoardOkRow.holds Tryd.pinned (OpenSpec.ofChange fnExactBoardOkWrong)

/-- 'laws.FnExactKeysOn': WHATEVER THE INPUT: true; the input reads as it did. -/
def fnExactKeysOnSpec : ChangeSpec := { name := "fnExactKeysOn", vars := ["loop.example/sigmaproofs/impl.groups"], fn := fun _ => fun
  | [d, g1] => { results := [.lit (.bool true)], args := [d], vars := [g1] }
  | _ => none }
def fnExactKeysOnRow : OpenClaim := { program := "ytiinifcepcaonaadoor", sum := "d0962f5716636746bbdf2761a5fec1457c1ac01e7cd7d6843afe309ff5822f6b", func := "loop.example/sigmaproofs/laws.FnExactKeysOn", spec := "fnExactKeysOn", named := ["loop.example/sigmaproofs/impl.groups"], apart := false, laid := [("loop.example/sigmaproofs/impl.groups", laid_loop_example_sigmaproofs_impl_groups)] }
def FnExactKeysOnSaid : Prop := fnExactKeysOnRow.holds Tryd.pinned (OpenSpec.ofChange fnExactKeysOnSpec)

/-- ITS FALSE NEIGHBOUR: 'it returns false'. Refute it at one input. -/
def fnExactKeysOnWrong : ChangeSpec := { name := "fnExactKeysOn", vars := ["loop.example/sigmaproofs/impl.groups"], fn := fun _ => fun
  | [d, g1] => { results := [.lit (.bool false)], args := [d], vars := [g1] }
  | _ => none }
def FnExactKeysOnWrongFalsely : Prop := fnExactKeysOnRow.holds Tryd.pinned (OpenSpec.ofChange fnExactKeysOnWrong)

/-- 'laws.FnExactLeakOf': WHATEVER THE INPUT: true; the input reads as it did. -/
def fnExactLeakOfSpec : ChangeSpec := { name := "fnExactLeakOf", vars := ["loop.example/sigmaproofs/impl.groups"], fn := fun _ => fun
  | [d1, d2, g1] => { results := [.lit (.bool true)], args := [d1, d2], vars := [g1] }
  | _ => none }
def fnExactLeakOfRow : OpenClaim := { program := "ytiinifcepcaonaadoor", sum := "d0962f5716636746bbdf2761a5fec1457c1ac01e7cd7d6843afe309ff5822f6b", func := "loop.example/sigmaproofs/laws.FnExactLeakOf", spec := "fnExactLeakOf", named := ["loop.example/sigmaproofs/impl.groups"], apart := false, laid := [("loop.example/sigmaproofs/impl.groups", laid_loop_example_sigmaproofs_impl_groups)] }
def FnExactLeakOfSaid : Prop := fnExactLeakOfRow.holds Tryd.pinned (OpenSpec.ofChange fnExactLeakOfSpec)

/-- ITS FALSE NEIGHBOUR: 'it returns false'. Refute it at one input. -/
def fnExactLeakOfWrong : ChangeSpec := { name := "fnExactLeakOf", vars := ["loop.example/sigmaproofs/impl.groups"], fn := fun _ => fun
  | [d1, d2, g1] => { results := [.lit (.bool false)], args := [d1, d2], vars := [g1] }
  | _ => none }
def FnExactLeakOfWrongFalsely : Prop := fnExactLeakOfRow.holds Tryd.pinned (OpenSpec.ofChange fnExactLeakOfWrong)

/-- 'laws.FnBoardOk': WHATEVER THE INPUT: true; the input reads as it did. -/
def fnBoardOkSpec : ChangeSpec := { name := "fnBoardOk", vars := ["loop.example/sigmaproofs/impl.groups"], fn := fun _ => fun
  | [d, g1] => { results := [.lit (.bool true)], args := [d], vars := [g1] }
  | _ => none }
def fnBoardOkRow : OpenClaim := { program := "ytiinifcepcaonaadoor", sum := "d0962f5716636746bbdf2761a5fec1457c1ac01e7cd7d6843afe309ff5822f6b", func := "loop.example/sigmaproofs/laws.FnBoardOk", spec := "fnBoardOk", recurses := true, named := ["loop.example/sigmaproofs/impl.groups"], apart := false, laid := [("loop.example/sigmaproofs/impl.groups", laid_loop_example_sigmaproofs_impl_groups)] }
def FnBoardOkSaid : Prop := fnBoardOkRow.holds Tryd.pinned (OpenSpec.ofChange fnBoardOkSpec)

/-- ITS FALSE NEIGHBOUR: 'it returns false'. Refute it at one input. -/
def fnBoardOkWrong : ChangeSpec := { name := "fnBoardOk", vars := ["loop.example/sigmaproofs/impl.groups"], fn := fun _ => fun
  | [d, g1] => { results := [.lit (.bool false)], args := [d], vars := [g1] }
  | _ => none }
def FnBoardOkWrongFalsely : Prop := fnBoardOkRow.holds Tryd.pinned (OpenSpec.ofChange fnBoardOkWrong)

/-- 'laws.FnBoardNew': WHATEVER THE INPUT: true; the input reads as it did. -/
def fnBoardNewSpec : ChangeSpec := { name := "fnBoardNew", vars := ["loop.example/sigmaproofs/impl.groups"], fn := fun _ => fun
  | [d, g1] => { results := [.lit (.bool true)], args := [d], vars := [g1] }
  | _ => none }
def fnBoardNewRow : OpenClaim := { program := "ytiinifcepcaonaadoor", sum := "d0962f5716636746bbdf2761a5fec1457c1ac01e7cd7d6843afe309ff5822f6b", func := "loop.example/sigmaproofs/laws.FnBoardNew", spec := "fnBoardNew", named := ["loop.example/sigmaproofs/impl.groups"], apart := false, laid := [("loop.example/sigmaproofs/impl.groups", laid_loop_example_sigmaproofs_impl_groups)] }
def FnBoardNewSaid : Prop := fnBoardNewRow.holds Tryd.pinned (OpenSpec.ofChange fnBoardNewSpec)

/-- ITS FALSE NEIGHBOUR: 'it returns false'. Refute it at one input. -/
def fnBoardNewWrong : ChangeSpec := { name := "fnBoardNew", vars := ["loop.example/sigmaproofs/impl.groups"], fn := fun _ => fun
  | [d, g1] => { results := [.lit (.bool false)], args := [d], vars := [g1] }
  | _ => none }
def FnBoardNewWrongFalsely : Prop := fnBoardNewRow.holds Tryd.pinned (OpenSpec.ofChange fnBoardNewWrong)

/-- 'laws.FnKeysOn': WHATEVER THE INPUT: true; the input reads as it did. -/
def fnKeysOnSpec : ChangeSpec := { name := "fnKeysOn", vars := ["loop.example/sigmaproofs/impl.groups"], fn := fun _ => fun
  | [d, g1] => { results := [.lit (.bool true)], args := [d], vars := [g1] }
  | _ => none }
def fnKeysOnRow : OpenClaim := { program := "ytiinifcepcaonaadoor", sum := "d0962f5716636746bbdf2761a5fec1457c1ac01e7cd7d6843afe309ff5822f6b", func := "loop.example/sigmaproofs/laws.FnKeysOn", spec := "fnKeysOn", recurses := true, named := ["loop.example/sigmaproofs/impl.groups"], apart := false, laid := [("loop.example/sigmaproofs/impl.groups", laid_loop_example_sigmaproofs_impl_groups)] }
def FnKeysOnSaid : Prop := fnKeysOnRow.holds Tryd.pinned (OpenSpec.ofChange fnKeysOnSpec)

/-- ITS FALSE NEIGHBOUR: 'it returns false'. Refute it at one input. -/
def fnKeysOnWrong : ChangeSpec := { name := "fnKeysOn", vars := ["loop.example/sigmaproofs/impl.groups"], fn := fun _ => fun
  | [d, g1] => { results := [.lit (.bool false)], args := [d], vars := [g1] }
  | _ => none }
def FnKeysOnWrongFalsely : Prop := fnKeysOnRow.holds Tryd.pinned (OpenSpec.ofChange fnKeysOnWrong)

/-- 'laws.FnLeakOf': WHATEVER THE INPUT: true; the input reads as it did. -/
def fnLeakOfSpec : ChangeSpec := { name := "fnLeakOf", vars := ["loop.example/sigmaproofs/impl.groups"], fn := fun _ => fun
  | [d, g1] => { results := [.lit (.bool true)], args := [d], vars := [g1] }
  | _ => none }
def fnLeakOfRow : OpenClaim := { program := "ytiinifcepcaonaadoor", sum := "d0962f5716636746bbdf2761a5fec1457c1ac01e7cd7d6843afe309ff5822f6b", func := "loop.example/sigmaproofs/laws.FnLeakOf", spec := "fnLeakOf", recurses := true, named := ["loop.example/sigmaproofs/impl.groups"], apart := false, laid := [("loop.example/sigmaproofs/impl.groups", laid_loop_example_sigmaproofs_impl_groups)] }
def FnLeakOfSaid : Prop := fnLeakOfRow.holds Tryd.pinned (OpenSpec.ofChange fnLeakOfSpec)

/-- ITS FALSE NEIGHBOUR: 'it returns false'. Refute it at one input. -/
def fnLeakOfWrong : ChangeSpec := { name := "fnLeakOf", vars := ["loop.example/sigmaproofs/impl.groups"], fn := fun _ => fun
  | [d, g1] => { results := [.lit (.bool false)], args := [d], vars := [g1] }
  | _ => none }
def FnLeakOfWrongFalsely : Prop := fnLeakOfRow.holds Tryd.pinned (OpenSpec.ofChange fnLeakOfWrong)

/- THE SECOND FORM. 'bulk': how many values and letters a reading holds, each counted each time it is reached (what is shared counts as often as it is met; a slice's spare places count too). A statement '..UptoSaid' is the law's where the arguments, and the package variables that the reading takes, are together of bulk at most 1048576: NARROWER than '..Said'. Prove '..Said' where nothing that the law and all that it calls make is longer than what came in: it says more and counts as full. Else prove '..UptoSaid'. A law counts once. -/
mutual
def uptoBulk {H : Type} : DataW H → Nat
  | .lit (.string bytes) => bytes.length + 1
  | .lit _ => 1
  | .nil => 1
  | .ptr d => uptoBulk d + 1
  | .slice elems spare => uptoBulkAll elems + uptoBulkAll spare + 1
  | .agg parts => uptoBulkAll parts + 1
  | .iface _ d => uptoBulk d + 1
  | .map entries => uptoBulkEntries entries + 1
  | .held _ => 1
def uptoBulkAll {H : Type} : List (DataW H) → Nat
  | [] => 0
  | d :: r => uptoBulk d + uptoBulkAll r
def uptoBulkEntries {H : Type} : List (Lit × DataW H) → Nat
  | [] => 0
  | x :: r => uptoBulkEntry x + uptoBulkEntries r
def uptoBulkEntry {H : Type} : Lit × DataW H → Nat
  | (.string bytes, d) => bytes.length + uptoBulk d + 1
  | (_, d) => uptoBulk d + 1
 end
def uptoSmall : (H : Type) → List (DataW H) → Bool := fun _ ds => decide (uptoBulkAll ds ≤ 1048576)
def OpenSpec.upto (s : _root_.Go.ChangeSpec) : _root_.Go.OpenSpec := { _root_.Go.OpenSpec.ofChange s with cond := some uptoSmall }

/-- 'laws.FnExactBoardOk', WHERE WHAT IT READS IS OF BULK AT MOST 1048576: true; the input reads as it did. -/
def fnExactBoardOkUptoRow : OpenClaim := { program := "ytiinifcepcaonaadoor", sum := "d0962f5716636746bbdf2761a5fec1457c1ac01e7cd7d6843afe309ff5822f6b", func := "loop.example/sigmaproofs/laws.FnExactBoardOk", spec := "fnExactBoardOk", named := ["loop.example/sigmaproofs/impl.groups"], apart := false, laid := [("loop.example/sigmaproofs/impl.groups", laid_loop_example_sigmaproofs_impl_groups)], narrowed := true }
def FnExactBoardOkUptoSaid : Prop := fnExactBoardOkUptoRow.holds Tryd.pinned (OpenSpec.upto fnExactBoardOkSpec)

/-- 'laws.FnExactKeysOn', WHERE WHAT IT READS IS OF BULK AT MOST 1048576: true; the input reads as it did. -/
def fnExactKeysOnUptoRow : OpenClaim := { program := "ytiinifcepcaonaadoor", sum := "d0962f5716636746bbdf2761a5fec1457c1ac01e7cd7d6843afe309ff5822f6b", func := "loop.example/sigmaproofs/laws.FnExactKeysOn", spec := "fnExactKeysOn", named := ["loop.example/sigmaproofs/impl.groups"], apart := false, laid := [("loop.example/sigmaproofs/impl.groups", laid_loop_example_sigmaproofs_impl_groups)], narrowed := true }
def FnExactKeysOnUptoSaid : Prop := fnExactKeysOnUptoRow.holds Tryd.pinned (OpenSpec.upto fnExactKeysOnSpec)

/-- 'laws.FnExactLeakOf', WHERE WHAT IT READS IS OF BULK AT MOST 1048576: true; the input reads as it did. -/
def fnExactLeakOfUptoRow : OpenClaim := { program := "ytiinifcepcaonaadoor", sum := "d0962f5716636746bbdf2761a5fec1457c1ac01e7cd7d6843afe309ff5822f6b", func := "loop.example/sigmaproofs/laws.FnExactLeakOf", spec := "fnExactLeakOf", named := ["loop.example/sigmaproofs/impl.groups"], apart := false, laid := [("loop.example/sigmaproofs/impl.groups", laid_loop_example_sigmaproofs_impl_groups)], narrowed := true }
def FnExactLeakOfUptoSaid : Prop := fnExactLeakOfUptoRow.holds Tryd.pinned (OpenSpec.upto fnExactLeakOfSpec)

/-- 'laws.FnBoardOk', WHERE WHAT IT READS IS OF BULK AT MOST 1048576: true; the input reads as it did. -/
def fnBoardOkUptoRow : OpenClaim := { program := "ytiinifcepcaonaadoor", sum := "d0962f5716636746bbdf2761a5fec1457c1ac01e7cd7d6843afe309ff5822f6b", func := "loop.example/sigmaproofs/laws.FnBoardOk", spec := "fnBoardOk", recurses := true, named := ["loop.example/sigmaproofs/impl.groups"], apart := false, laid := [("loop.example/sigmaproofs/impl.groups", laid_loop_example_sigmaproofs_impl_groups)], narrowed := true }
def FnBoardOkUptoSaid : Prop := fnBoardOkUptoRow.holds Tryd.pinned (OpenSpec.upto fnBoardOkSpec)

/-- 'laws.FnBoardNew', WHERE WHAT IT READS IS OF BULK AT MOST 1048576: true; the input reads as it did. -/
def fnBoardNewUptoRow : OpenClaim := { program := "ytiinifcepcaonaadoor", sum := "d0962f5716636746bbdf2761a5fec1457c1ac01e7cd7d6843afe309ff5822f6b", func := "loop.example/sigmaproofs/laws.FnBoardNew", spec := "fnBoardNew", named := ["loop.example/sigmaproofs/impl.groups"], apart := false, laid := [("loop.example/sigmaproofs/impl.groups", laid_loop_example_sigmaproofs_impl_groups)], narrowed := true }
def FnBoardNewUptoSaid : Prop := fnBoardNewUptoRow.holds Tryd.pinned (OpenSpec.upto fnBoardNewSpec)

/-- 'laws.FnKeysOn', WHERE WHAT IT READS IS OF BULK AT MOST 1048576: true; the input reads as it did. -/
def fnKeysOnUptoRow : OpenClaim := { program := "ytiinifcepcaonaadoor", sum := "d0962f5716636746bbdf2761a5fec1457c1ac01e7cd7d6843afe309ff5822f6b", func := "loop.example/sigmaproofs/laws.FnKeysOn", spec := "fnKeysOn", recurses := true, named := ["loop.example/sigmaproofs/impl.groups"], apart := false, laid := [("loop.example/sigmaproofs/impl.groups", laid_loop_example_sigmaproofs_impl_groups)], narrowed := true }
def FnKeysOnUptoSaid : Prop := fnKeysOnUptoRow.holds Tryd.pinned (OpenSpec.upto fnKeysOnSpec)

/-- 'laws.FnLeakOf', WHERE WHAT IT READS IS OF BULK AT MOST 1048576: true; the input reads as it did. -/
def fnLeakOfUptoRow : OpenClaim := { program := "ytiinifcepcaonaadoor", sum := "d0962f5716636746bbdf2761a5fec1457c1ac01e7cd7d6843afe309ff5822f6b", func := "loop.example/sigmaproofs/laws.FnLeakOf", spec := "fnLeakOf", recurses := true, named := ["loop.example/sigmaproofs/impl.groups"], apart := false, laid := [("loop.example/sigmaproofs/impl.groups", laid_loop_example_sigmaproofs_impl_groups)], narrowed := true }
def FnLeakOfUptoSaid : Prop := fnLeakOfUptoRow.holds Tryd.pinned (OpenSpec.upto fnLeakOfSpec)

end Rows
end Go.Proofs.YtiinifcepcaonaaDoor
