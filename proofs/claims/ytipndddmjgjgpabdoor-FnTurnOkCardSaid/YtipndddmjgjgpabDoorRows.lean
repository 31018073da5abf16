/-
  NARROWER THAN 'FOR EVERY INPUT', by the rows' own cells (each row's printed sentence says how): FnGraphOk: laid · FnOrderOk: laid · FnGraphMoved: laid · FnOrderThen: laid · FnOrderBack: laid · FnOrdersBetween: laid · FnTurnOk: laid · FnTurnOf: laid · FnTurnMade: laid · FnOrderFrom: laid · FnTurnTable: laid.
  DERIVED. THE GIVEN ROWS OF THIS SEAT. 11 by the template 'for every input the law returns true; each argument reads behind the call as it read before'; 0 by the template 'total and deterministic' (their statements: YtipndddmjgjgpabDoorTotals.lean).
  GIVEN WITH THE SEED: the statements are not yours to turn. If you find one false, say at which input.
  Laid BY PROGRAM, IN A SANDBOX (cutbox-rows.mjs): the forced cells as the released guide's own fill.sh prints them over the translation e24040dd3fcddc6c… (all of the seat's roots in one cut). By AI agents, Wed Nov 11 2026. No macro, syntax, notation, axiom, sorry.
-/
import Derived.Test.YtipndddmjgjgpabDoorChecked
import GoSem.Claim
import GoSem.ClaimJoined
import GoSem.ClaimMapViews
import Derived.JoinedTies
import Derived.KernelRfl
namespace Go.Proofs.YtipndddmjgjgpabDoor
/- THE CELL 'sum', in the pinned program and in every row, IS THE sha256 OF THE DUMP (.gsa) THAT YtipndddmjgjgpabDoorProg.lean LOADS. Nothing in Lean hashes anything: it is a label: what it is worth is what the hold of that sum in a sandbox is worth. -/
noncomputable def Tryd.pinned : Pinned := { name := "ytipndddmjgjgpabdoor", sum := "e24040dd3fcddc6ca50747e3f83661ea67f7bc3abddd2a73d5a394446ed28a37", checked := Tryd.checked }
namespace Rows
def none {H : Type} : Left H := { results := [], args := [] }

/- WHAT THE LISTED PACKAGE-LEVEL VARIABLES READ AS WHEN THE CALL BEGINS. Each datum BY PROGRAM (the guide's laid-datum.mjs) off the statement by which the dump's own 'gosem.cut.vars' lays the variable. In a bare row this is a premise. The card (YtipndddmjgjgpabDoorCards.lean) ties it to the program's text. -/
def laid_loop_example_sigmaproofs_impl_groups {H : Type} : DataW H := .agg [.agg [.lit (.int .i64 7), .lit (.int .i64 3), .lit (.int .i64 2)], .agg [.lit (.int .i64 11), .lit (.int .i64 5), .lit (.int .i64 3)], .agg [.lit (.int .i64 23), .lit (.int .i64 11), .lit (.int .i64 2)], .agg [.lit (.int .i64 47), .lit (.int .i64 23), .lit (.int .i64 2)]]

/-- 'laws.FnGraphOk': WHATEVER THE INPUT: true; the input reads as it did. -/
def fnGraphOkSpec : ChangeSpec := { name := "fnGraphOk", vars := ["loop.example/sigmaproofs/impl.groups"], fn := fun _ => fun
  | [d, g1] => { results := [.lit (.bool true)], args := [d], vars := [g1] }
  | _ => none }
def fnGraphOkRow : OpenClaim := { program := "ytipndddmjgjgpabdoor", sum := "e24040dd3fcddc6ca50747e3f83661ea67f7bc3abddd2a73d5a394446ed28a37", func := "loop.example/sigmaproofs/laws.FnGraphOk", spec := "fnGraphOk", named := ["loop.example/sigmaproofs/impl.groups"], apart := false, laid := [("loop.example/sigmaproofs/impl.groups", laid_loop_example_sigmaproofs_impl_groups)] }
def FnGraphOkSaid : Prop := fnGraphOkRow.holds Tryd.pinned (OpenSpec.ofChange fnGraphOkSpec)

/-- ITS FALSE NEIGHBOUR: 'it returns false'. Refute it at one input. -/
def fnGraphOkWrong : ChangeSpec := { name := "fnGraphOk", vars := ["loop.example/sigmaproofs/impl.groups"], fn := fun _ => fun
  | [d, g1] => { results := [.lit (.bool false)], args := [d], vars := [g1] }
  | _ => none }
def FnGraphOkWrongFalsely : Prop := fnGraphOkRow.holds Tryd.pinned (OpenSpec.ofChange fnGraphOkWrong)

/-- 'laws.FnOrderOk': WHATEVER THE INPUT: true; the input reads as it did. -/
def fnOrderOkSpec : ChangeSpec := { name := "fnOrderOk", vars := ["loop.example/sigmaproofs/impl.groups"], fn := fun _ => fun
  | [d, g1] => { results := [.lit (.bool true)], args := [d], vars := [g1] }
  | _ => none }
def fnOrderOkRow : OpenClaim := { program := "ytipndddmjgjgpabdoor", sum := "e24040dd3fcddc6ca50747e3f83661ea67f7bc3abddd2a73d5a394446ed28a37", func := "loop.example/sigmaproofs/laws.FnOrderOk", spec := "fnOrderOk", named := ["loop.example/sigmaproofs/impl.groups"], apart := false, laid := [("loop.example/sigmaproofs/impl.groups", laid_loop_example_sigmaproofs_impl_groups)] }
def FnOrderOkSaid : Prop := fnOrderOkRow.holds Tryd.pinned (OpenSpec.ofChange fnOrderOkSpec)

/-- ITS FALSE NEIGHBOUR: 'it returns false'. Refute it at one input. -/
def fnOrderOkWrong : ChangeSpec := { name := "fnOrderOk", vars := ["loop.example/sigmaproofs/impl.groups"], fn := fun _ => fun
  | [d, g1] => { results := [.lit (.bool false)], args := [d], vars := [g1] }
  | _ => none }
def FnOrderOkWrongFalsely : Prop := fnOrderOkRow.holds Tryd.pinned (OpenSpec.ofChange fnOrderOkWrong)

/-- 'laws.FnGraphMoved': WHATEVER THE INPUT: true; the input reads as it did. -/
def fnGraphMovedSpec : ChangeSpec := { name := "fnGraphMoved", vars := ["loop.example/sigmaproofs/impl.groups"], fn := fun _ => fun
  | [d1, d2, g1] => { results := [.lit (.bool true)], args := [d1, d2], vars := [g1] }
  | _ => none }
def fnGraphMovedRow : OpenClaim := { program := "ytipndddmjgjgpabdoor", sum := "e24040dd3fcddc6ca50747e3f83661ea67f7bc3abddd2a73d5a394446ed28a37", func := "loop.example/sigmaproofs/laws.FnGraphMoved", spec := "fnGraphMoved", recurses := true, named := ["loop.example/sigmaproofs/impl.groups"], apart := false, laid := [("loop.example/sigmaproofs/impl.groups", laid_loop_example_sigmaproofs_impl_groups)] }
def FnGraphMovedSaid : Prop := fnGraphMovedRow.holds Tryd.pinned (OpenSpec.ofChange fnGraphMovedSpec)

/-- ITS FALSE NEIGHBOUR: 'it returns false'. Refute it at one input. -/
def fnGraphMovedWrong : ChangeSpec := { name := "fnGraphMoved", vars := ["loop.example/sigmaproofs/impl.groups"], fn := fun _ => fun
  | [d1, d2, g1] => { results := [.lit (.bool false)], args := [d1, d2], vars := [g1] }
  | _ => none }
def FnGraphMovedWrongFalsely : Prop := fnGraphMovedRow.holds Tryd.pinned (OpenSpec.ofChange fnGraphMovedWrong)

/-- 'laws.FnOrderThen': WHATEVER THE INPUT: true; the input reads as it did. -/
def fnOrderThenSpec : ChangeSpec := { name := "fnOrderThen", vars := ["loop.example/sigmaproofs/impl.groups"], fn := fun _ => fun
  | [d, g1] => { results := [.lit (.bool true)], args := [d], vars := [g1] }
  | _ => none }
def fnOrderThenRow : OpenClaim := { program := "ytipndddmjgjgpabdoor", sum := "e24040dd3fcddc6ca50747e3f83661ea67f7bc3abddd2a73d5a394446ed28a37", func := "loop.example/sigmaproofs/laws.FnOrderThen", spec := "fnOrderThen", named := ["loop.example/sigmaproofs/impl.groups"], apart := false, laid := [("loop.example/sigmaproofs/impl.groups", laid_loop_example_sigmaproofs_impl_groups)] }
def FnOrderThenSaid : Prop := fnOrderThenRow.holds Tryd.pinned (OpenSpec.ofChange fnOrderThenSpec)

/-- ITS FALSE NEIGHBOUR: 'it returns false'. Refute it at one input. -/
def fnOrderThenWrong : ChangeSpec := { name := "fnOrderThen", vars := ["loop.example/sigmaproofs/impl.groups"], fn := fun _ => fun
  | [d, g1] => { results := [.lit (.bool false)], args := [d], vars := [g1] }
  | _ => none }
def FnOrderThenWrongFalsely : Prop := fnOrderThenRow.holds Tryd.pinned (OpenSpec.ofChange fnOrderThenWrong)

/-- 'laws.FnOrderBack': WHATEVER THE INPUT: true; the input reads as it did. -/
def fnOrderBackSpec : ChangeSpec := { name := "fnOrderBack", vars := ["loop.example/sigmaproofs/impl.groups"], fn := fun _ => fun
  | [d, g1] => { results := [.lit (.bool true)], args := [d], vars := [g1] }
  | _ => none }
def fnOrderBackRow : OpenClaim := { program := "ytipndddmjgjgpabdoor", sum := "e24040dd3fcddc6ca50747e3f83661ea67f7bc3abddd2a73d5a394446ed28a37", func := "loop.example/sigmaproofs/laws.FnOrderBack", spec := "fnOrderBack", named := ["loop.example/sigmaproofs/impl.groups"], apart := false, laid := [("loop.example/sigmaproofs/impl.groups", laid_loop_example_sigmaproofs_impl_groups)] }
def FnOrderBackSaid : Prop := fnOrderBackRow.holds Tryd.pinned (OpenSpec.ofChange fnOrderBackSpec)

/-- ITS FALSE NEIGHBOUR: 'it returns false'. Refute it at one input. -/
def fnOrderBackWrong : ChangeSpec := { name := "fnOrderBack", vars := ["loop.example/sigmaproofs/impl.groups"], fn := fun _ => fun
  | [d, g1] => { results := [.lit (.bool false)], args := [d], vars := [g1] }
  | _ => none }
def FnOrderBackWrongFalsely : Prop := fnOrderBackRow.holds Tryd.pinned (OpenSpec.ofChange fnOrderBackWrong)

/-- 'laws.FnOrdersBetween': WHATEVER THE INPUT: true; the input reads as it did. -/
def fnOrdersBetweenSpec : ChangeSpec := { name := "fnOrdersBetween", vars := ["loop.example/sigmaproofs/impl.groups"], fn := fun _ => fun
  | [d, g1] => { results := [.lit (.bool true)], args := [d], vars := [g1] }
  | _ => none }
def fnOrdersBetweenRow : OpenClaim := { program := "ytipndddmjgjgpabdoor", sum := "e24040dd3fcddc6ca50747e3f83661ea67f7bc3abddd2a73d5a394446ed28a37", func := "loop.example/sigmaproofs/laws.FnOrdersBetween", spec := "fnOrdersBetween", unfollowed := true, recurses := true, named := ["loop.example/sigmaproofs/impl.groups"], leaving := true, apart := false, laid := [("loop.example/sigmaproofs/impl.groups", laid_loop_example_sigmaproofs_impl_groups)] }
def FnOrdersBetweenSaid : Prop := fnOrdersBetweenRow.holds Tryd.pinned (OpenSpec.ofChange fnOrdersBetweenSpec)

/-- ITS FALSE NEIGHBOUR: 'it returns false'. Refute it at one input. -/
def fnOrdersBetweenWrong : ChangeSpec := { name := "fnOrdersBetween", vars := ["loop.example/sigmaproofs/impl.groups"], fn := fun _ => fun
  | [d, g1] => { results := [.lit (.bool false)], args := [d], vars := [g1] }
  | _ => none }
def FnOrdersBetweenWrongFalsely : Prop := fnOrdersBetweenRow.holds Tryd.pinned (OpenSpec.ofChange fnOrdersBetweenWrong)

/-- 'laws.FnTurnOk': WHATEVER THE INPUT: true; the input reads as it did. -/
def fnTurnOkSpec : ChangeSpec := { name := "fnTurnOk", vars := ["loop.example/sigmaproofs/impl.groups"], fn := fun _ => fun
  | [d, g1] => { results := [.lit (.bool true)], args := [d], vars := [g1] }
  | _ => none }
def fnTurnOkRow : OpenClaim := { program := "ytipndddmjgjgpabdoor", sum := "e24040dd3fcddc6ca50747e3f83661ea67f7bc3abddd2a73d5a394446ed28a37", func := "loop.example/sigmaproofs/laws.FnTurnOk", spec := "fnTurnOk", recurses := true, named := ["loop.example/sigmaproofs/impl.groups"], apart := false, laid := [("loop.example/sigmaproofs/impl.groups", laid_loop_example_sigmaproofs_impl_groups)] }
def FnTurnOkSaid : Prop := fnTurnOkRow.holds Tryd.pinned (OpenSpec.ofChange fnTurnOkSpec)

/-- ITS FALSE NEIGHBOUR: 'it returns false'. Refute it at one input. -/
def fnTurnOkWrong : ChangeSpec := { name := "fnTurnOk", vars := ["loop.example/sigmaproofs/impl.groups"], fn := fun _ => fun
  | [d, g1] => { results := [.lit (.bool false)], args := [d], vars := [g1] }
  | _ => none }
def FnTurnOkWrongFalsely : Prop := fnTurnOkRow.holds Tryd.pinned (OpenSpec.ofChange fnTurnOkWrong)

/-- 'laws.FnTurnOf': WHATEVER THE INPUT: true; the input reads as it did. -/
def fnTurnOfSpec : ChangeSpec := { name := "fnTurnOf", vars := ["loop.example/sigmaproofs/impl.groups"], fn := fun _ => fun
  | [d, g1] => { results := [.lit (.bool true)], args := [d], vars := [g1] }
  | _ => none }
def fnTurnOfRow : OpenClaim := { program := "ytipndddmjgjgpabdoor", sum := "e24040dd3fcddc6ca50747e3f83661ea67f7bc3abddd2a73d5a394446ed28a37", func := "loop.example/sigmaproofs/laws.FnTurnOf", spec := "fnTurnOf", recurses := true, named := ["loop.example/sigmaproofs/impl.groups"], apart := false, laid := [("loop.example/sigmaproofs/impl.groups", laid_loop_example_sigmaproofs_impl_groups)] }
def FnTurnOfSaid : Prop := fnTurnOfRow.holds Tryd.pinned (OpenSpec.ofChange fnTurnOfSpec)

/-- ITS FALSE NEIGHBOUR: 'it returns false'. Refute it at one input. -/
def fnTurnOfWrong : ChangeSpec := { name := "fnTurnOf", vars := ["loop.example/sigmaproofs/impl.groups"], fn := fun _ => fun
  | [d, g1] => { results := [.lit (.bool false)], args := [d], vars := [g1] }
  | _ => none }
def FnTurnOfWrongFalsely : Prop := fnTurnOfRow.holds Tryd.pinned (OpenSpec.ofChange fnTurnOfWrong)

/-- 'laws.FnTurnMade': WHATEVER THE INPUT: true; the input reads as it did. -/
def fnTurnMadeSpec : ChangeSpec := { name := "fnTurnMade", vars := ["loop.example/sigmaproofs/impl.groups"], fn := fun _ => fun
  | [d, g1] => { results := [.lit (.bool true)], args := [d], vars := [g1] }
  | _ => none }
def fnTurnMadeRow : OpenClaim := { program := "ytipndddmjgjgpabdoor", sum := "e24040dd3fcddc6ca50747e3f83661ea67f7bc3abddd2a73d5a394446ed28a37", func := "loop.example/sigmaproofs/laws.FnTurnMade", spec := "fnTurnMade", recurses := true, named := ["loop.example/sigmaproofs/impl.groups"], apart := false, laid := [("loop.example/sigmaproofs/impl.groups", laid_loop_example_sigmaproofs_impl_groups)] }
def FnTurnMadeSaid : Prop := fnTurnMadeRow.holds Tryd.pinned (OpenSpec.ofChange fnTurnMadeSpec)

/-- ITS FALSE NEIGHBOUR: 'it returns false'. Refute it at one input. -/
def fnTurnMadeWrong : ChangeSpec := { name := "fnTurnMade", vars := ["loop.example/sigmaproofs/impl.groups"], fn := fun _ => fun
  | [d, g1] => { results := [.lit (.bool false)], args := [d], vars := [g1] }
  | _ => none }
def FnTurnMadeWrongFalsely : Prop := fnTurnMadeRow.holds Tryd.pinned (OpenSpec.ofChange fnTurnMadeWrong)

/-- 'laws.FnOrderFrom': WHATEVER THE INPUT: true; the input reads as it did. -/
def fnOrderFromSpec : ChangeSpec := { name := "fnOrderFrom", vars := ["loop.example/sigmaproofs/impl.groups"], fn := fun _ => fun
  | [d, g1] => { results := [.lit (.bool true)], args := [d], vars := [g1] }
  | _ => none }
def fnOrderFromRow : OpenClaim := { program := "ytipndddmjgjgpabdoor", sum := "e24040dd3fcddc6ca50747e3f83661ea67f7bc3abddd2a73d5a394446ed28a37", func := "loop.example/sigmaproofs/laws.FnOrderFrom", spec := "fnOrderFrom", recurses := true, named := ["loop.example/sigmaproofs/impl.groups"], apart := false, laid := [("loop.example/sigmaproofs/impl.groups", laid_loop_example_sigmaproofs_impl_groups)] }
def FnOrderFromSaid : Prop := fnOrderFromRow.holds Tryd.pinned (OpenSpec.ofChange fnOrderFromSpec)

/-- ITS FALSE NEIGHBOUR: 'it returns false'. Refute it at one input. -/
def fnOrderFromWrong : ChangeSpec := { name := "fnOrderFrom", vars := ["loop.example/sigmaproofs/impl.groups"], fn := fun _ => fun
  | [d, g1] => { results := [.lit (.bool false)], args := [d], vars := [g1] }
  | _ => none }
def FnOrderFromWrongFalsely : Prop := fnOrderFromRow.holds Tryd.pinned (OpenSpec.ofChange fnOrderFromWrong)

/-- 'laws.FnTurnTable': WHATEVER THE INPUT: true; the input reads as it did. -/
def fnTurnTableSpec : ChangeSpec := { name := "fnTurnTable", vars := ["loop.example/sigmaproofs/impl.groups"], fn := fun _ => fun
  | [d, g1] => { results := [.lit (.bool true)], args := [d], vars := [g1] }
  | _ => none }
def fnTurnTableRow : OpenClaim := { program := "ytipndddmjgjgpabdoor", sum := "e24040dd3fcddc6ca50747e3f83661ea67f7bc3abddd2a73d5a394446ed28a37", func := "loop.example/sigmaproofs/laws.FnTurnTable", spec := "fnTurnTable", inPlace := ["(*sync.WaitGroup).Add", "internal/race.ReleaseMerge", "internal/race.Disable", "internal/race.Enable", "internal/synctest.IsInBubble", "internal/synctest.Associate[sync.WaitGroup]", "sync.fatal", "sync/atomic.OrUint64", "sync/atomic.AddUint64", "internal/race.Read", "sync/atomic.LoadUint64", "sync/atomic.StoreUint64", "internal/synctest.Disassociate[sync.WaitGroup]", "sync.runtime_Semrelease", "(*sync.WaitGroup).Done", "(*sync.WaitGroup).Wait", "internal/race.Acquire", "internal/synctest.IsAssociated[sync.WaitGroup]", "sync/atomic.CompareAndSwapUint64", "internal/race.Write", "sync.runtime_SemacquireWaitGroup"], unfollowed := true, recurses := true, named := ["loop.example/sigmaproofs/impl.groups"], leaving := true, apart := false, laid := [("loop.example/sigmaproofs/impl.groups", laid_loop_example_sigmaproofs_impl_groups)] }
def FnTurnTableSaid : Prop := fnTurnTableRow.holds Tryd.pinned (OpenSpec.ofChange fnTurnTableSpec)

/-- ITS FALSE NEIGHBOUR: 'it returns false'. Refute it at one input. -/
def fnTurnTableWrong : ChangeSpec := { name := "fnTurnTable", vars := ["loop.example/sigmaproofs/impl.groups"], fn := fun _ => fun
  | [d, g1] => { results := [.lit (.bool false)], args := [d], vars := [g1] }
  | _ => none }
def FnTurnTableWrongFalsely : Prop := fnTurnTableRow.holds Tryd.pinned (OpenSpec.ofChange fnTurnTableWrong)

/- THE SECOND FORM. 'bulk': how many values and letters a reading holds, each counted each time it is reached (what is shared counts as often as it is met; a slice's spare places count too). A statement '..UptoSaid' is the law's where the arguments, and the package variables that the reading takes, are together of bulk at most 1048576: NARROWER than '..Said'. Prove '..Said' where nothing that the law and all that it calls make is longer than what came in: it says more and counts as full. Else prove '..UptoSaid'. A law counts once. -/
mutual
def uptoBulk {H : Type} : DataW H → Nat
  | .lit (.string bytes) => bytes.length + 1
  | .lit _ => 1
  | .nil => 1
  | .ptr d => uptoBulk d + 1
  | .slice elems spare => uptoBulkAll elems + uptoBulkAll spare + 1
  | .agg parts => uptoBulkAll parts + 1
  | .iface _ d => uptoBulk d + 1
  | .map entries => uptoBulkEntries entries + 1
  | .held _ => 1
def uptoBulkAll {H : Type} : List (DataW H) → Nat
  | [] => 0
  | d :: r => uptoBulk d + uptoBulkAll r
def uptoBulkEntries {H : Type} : List (Lit × DataW H) → Nat
  | [] => 0
  | x :: r => uptoBulkEntry x + uptoBulkEntries r
def uptoBulkEntry {H : Type} : Lit × DataW H → Nat
  | (.string bytes, d) => bytes.length + uptoBulk d + 1
  | (_, d) => uptoBulk d + 1
 end
def uptoSmall : (H : Type) → List (DataW H) → Bool := fun _ ds => decide (uptoBulkAll ds ≤ 1048576)
def OpenSpec.upto (s : _root_.Go.ChangeSpec) : _root_.Go.OpenSpec := { _root_.Go.OpenSpec.ofChange s with cond := some uptoSmall }

/-- 'laws.FnGraphOk', WHERE WHAT IT READS IS OF BULK AT MOST 1048576: true; the input reads as it did. -/
def fnGraphOkUptoRow : OpenClaim := { program := "ytipndddmjgjgpabdoor", sum := "e24040dd3fcddc6ca50747e3f83661ea67f7bc3abddd2a73d5a394446ed28a37", func := "loop.example/sigmaproofs/laws.FnGraphOk", spec := "fnGraphOk", named := ["loop.example/sigmaproofs/impl.groups"], apart := false, laid := [("loop.example/sigmaproofs/impl.groups", laid_loop_example_sigmaproofs_impl_groups)], narrowed := true }
def FnGraphOkUptoSaid : Prop := fnGraphOkUptoRow.holds Tryd.pinned (OpenSpec.upto fnGraphOkSpec)

/-- 'laws.FnOrderOk', WHERE WHAT IT READS IS OF BULK AT MOST 1048576: true; the input reads as it did. -/
def fnOrderOkUptoRow : OpenClaim := { program := "ytipndddmjgjgpabdoor", sum := "e24040dd3fcddc6ca50747e3f83661ea67f7bc3abddd2a73d5a394446ed28a37", func := "loop.example/sigmaproofs/laws.FnOrderOk", spec := "fnOrderOk", named := ["loop.example/sigmaproofs/impl.groups"], apart := false, laid := [("loop.example/sigmaproofs/impl.groups", laid_loop_example_sigmaproofs_impl_groups)], narrowed := true }
def FnOrderOkUptoSaid : Prop := fnOrderOkUptoRow.holds Tryd.pinned (OpenSpec.upto fnOrderOkSpec)

/-- 'laws.FnGraphMoved', WHERE WHAT IT READS IS OF BULK AT MOST 1048576: true; the input reads as it did. -/
def fnGraphMovedUptoRow : OpenClaim := { program := "ytipndddmjgjgpabdoor", sum := "e24040dd3fcddc6ca50747e3f83661ea67f7bc3abddd2a73d5a394446ed28a37", func := "loop.example/sigmaproofs/laws.FnGraphMoved", spec := "fnGraphMoved", recurses := true, named := ["loop.example/sigmaproofs/impl.groups"], apart := false, laid := [("loop.example/sigmaproofs/impl.groups", laid_loop_example_sigmaproofs_impl_groups)], narrowed := true }
def FnGraphMovedUptoSaid : Prop := fnGraphMovedUptoRow.holds Tryd.pinned (OpenSpec.upto fnGraphMovedSpec)

/-- 'laws.FnOrderThen', WHERE WHAT IT READS IS OF BULK AT MOST 1048576: true; the input reads as it did. -/
def fnOrderThenUptoRow : OpenClaim := { program := "ytipndddmjgjgpabdoor", sum := "e24040dd3fcddc6ca50747e3f83661ea67f7bc3abddd2a73d5a394446ed28a37", func := "loop.example/sigmaproofs/laws.FnOrderThen", spec := "fnOrderThen", named := ["loop.example/sigmaproofs/impl.groups"], apart := false, laid := [("loop.example/sigmaproofs/impl.groups", laid_loop_example_sigmaproofs_impl_groups)], narrowed := true }
def FnOrderThenUptoSaid : Prop := fnOrderThenUptoRow.holds Tryd.pinned (OpenSpec.upto fnOrderThenSpec)

/-- 'laws.FnOrderBack', WHERE WHAT IT READS IS OF BULK AT MOST 1048576: true; the input reads as it did. -/
def fnOrderBackUptoRow : OpenClaim := { program := "ytipndddmjgjgpabdoor", sum := "e24040dd3fcddc6ca50747e3f83661ea67f7bc3abddd2a73d5a394446ed28a37", func := "loop.example/sigmaproofs/laws.FnOrderBack", spec := "fnOrderBack", named := ["loop.example/sigmaproofs/impl.groups"], apart := false, laid := [("loop.example/sigmaproofs/impl.groups", laid_loop_example_sigmaproofs_impl_groups)], narrowed := true }
def FnOrderBackUptoSaid : Prop := fnOrderBackUptoRow.holds Tryd.pinned (OpenSpec.upto fnOrderBackSpec)

/-- 'laws.FnOrdersBetween', WHERE WHAT IT READS IS OF BULK AT MOST 1048576: true; the input reads as it did. -/
def fnOrdersBetweenUptoRow : OpenClaim := { program := "ytipndddmjgjgpabdoor", sum := "e24040dd3fcddc6ca50747e3f83661ea67f7bc3abddd2a73d5a394446ed28a37", func := "loop.example/sigmaproofs/laws.FnOrdersBetween", spec := "fnOrdersBetween", unfollowed := true, recurses := true, named := ["loop.example/sigmaproofs/impl.groups"], leaving := true, apart := false, laid := [("loop.example/sigmaproofs/impl.groups", laid_loop_example_sigmaproofs_impl_groups)], narrowed := true }
def FnOrdersBetweenUptoSaid : Prop := fnOrdersBetweenUptoRow.holds Tryd.pinned (OpenSpec.upto fnOrdersBetweenSpec)

/-- 'laws.FnTurnOk', WHERE WHAT IT READS IS OF BULK AT MOST 1048576: true; the input reads as it did. -/
def fnTurnOkUptoRow : OpenClaim := { program := "ytipndddmjgjgpabdoor", sum := "e24040dd3fcddc6ca50747e3f83661ea67f7bc3abddd2a73d5a394446ed28a37", func := "loop.example/sigmaproofs/laws.FnTurnOk", spec := "fnTurnOk", recurses := true, named := ["loop.example/sigmaproofs/impl.groups"], apart := false, laid := [("loop.example/sigmaproofs/impl.groups", laid_loop_example_sigmaproofs_impl_groups)], narrowed := true }
def FnTurnOkUptoSaid : Prop := fnTurnOkUptoRow.holds Tryd.pinned (OpenSpec.upto fnTurnOkSpec)

/-- 'laws.FnTurnOf', WHERE WHAT IT READS IS OF BULK AT MOST 1048576: true; the input reads as it did. -/
def fnTurnOfUptoRow : OpenClaim := { program := "ytipndddmjgjgpabdoor", sum := "e24040dd3fcddc6ca50747e3f83661ea67f7bc3abddd2a73d5a394446ed28a37", func := "loop.example/sigmaproofs/laws.FnTurnOf", spec := "fnTurnOf", recurses := true, named := ["loop.example/sigmaproofs/impl.groups"], apart := false, laid := [("loop.example/sigmaproofs/impl.groups", laid_loop_example_sigmaproofs_impl_groups)], narrowed := true }
def FnTurnOfUptoSaid : Prop := fnTurnOfUptoRow.holds Tryd.pinned (OpenSpec.upto fnTurnOfSpec)

/-- 'laws.FnTurnMade', WHERE WHAT IT READS IS OF BULK AT MOST 1048576: true; the input reads as it did. -/
def fnTurnMadeUptoRow : OpenClaim := { program := "ytipndddmjgjgpabdoor", sum := "e24040dd3fcddc6ca50747e3f83661ea67f7bc3abddd2a73d5a394446ed28a37", func := "loop.example/sigmaproofs/laws.FnTurnMade", spec := "fnTurnMade", recurses := true, named := ["loop.example/sigmaproofs/impl.groups"], apart := false, laid := [("loop.example/sigmaproofs/impl.groups", laid_loop_example_sigmaproofs_impl_groups)], narrowed := true }
def FnTurnMadeUptoSaid : Prop := fnTurnMadeUptoRow.holds Tryd.pinned (OpenSpec.upto fnTurnMadeSpec)

/-- 'laws.FnOrderFrom', WHERE WHAT IT READS IS OF BULK AT MOST 1048576: true; the input reads as it did. -/
def fnOrderFromUptoRow : OpenClaim := { program := "ytipndddmjgjgpabdoor", sum := "e24040dd3fcddc6ca50747e3f83661ea67f7bc3abddd2a73d5a394446ed28a37", func := "loop.example/sigmaproofs/laws.FnOrderFrom", spec := "fnOrderFrom", recurses := true, named := ["loop.example/sigmaproofs/impl.groups"], apart := false, laid := [("loop.example/sigmaproofs/impl.groups", laid_loop_example_sigmaproofs_impl_groups)], narrowed := true }
def FnOrderFromUptoSaid : Prop := fnOrderFromUptoRow.holds Tryd.pinned (OpenSpec.upto fnOrderFromSpec)

/-- 'laws.FnTurnTable', WHERE WHAT IT READS IS OF BULK AT MOST 1048576: true; the input reads as it did. -/
def fnTurnTableUptoRow : OpenClaim := { program := "ytipndddmjgjgpabdoor", sum := "e24040dd3fcddc6ca50747e3f83661ea67f7bc3abddd2a73d5a394446ed28a37", func := "loop.example/sigmaproofs/laws.FnTurnTable", spec := "fnTurnTable", inPlace := ["(*sync.WaitGroup).Add", "internal/race.ReleaseMerge", "internal/race.Disable", "internal/race.Enable", "internal/synctest.IsInBubble", "internal/synctest.Associate[sync.WaitGroup]", "sync.fatal", "sync/atomic.OrUint64", "sync/atomic.AddUint64", "internal/race.Read", "sync/atomic.LoadUint64", "sync/atomic.StoreUint64", "internal/synctest.Disassociate[sync.WaitGroup]", "sync.runtime_Semrelease", "(*sync.WaitGroup).Done", "(*sync.WaitGroup).Wait", "internal/race.Acquire", "internal/synctest.IsAssociated[sync.WaitGroup]", "sync/atomic.CompareAndSwapUint64", "internal/race.Write", "sync.runtime_SemacquireWaitGroup"], unfollowed := true, recurses := true, named := ["loop.example/sigmaproofs/impl.groups"], leaving := true, apart := false, laid := [("loop.example/sigmaproofs/impl.groups", laid_loop_example_sigmaproofs_impl_groups)], narrowed := true }
def FnTurnTableUptoSaid : Prop := fnTurnTableUptoRow.holds Tryd.pinned (OpenSpec.upto fnTurnTableSpec)

end Rows
end Go.Proofs.YtipndddmjgjgpabDoor
