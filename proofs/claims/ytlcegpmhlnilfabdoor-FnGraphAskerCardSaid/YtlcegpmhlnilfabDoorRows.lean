/-
  NARROWER THAN 'FOR EVERY INPUT', by the rows' own cells (each row's printed sentence says how): FnTurnTable: laid · FnAskerOk: laid · FnAskedBy: laid · FnHeardFrom: laid · FnKeptBy: laid · FnGraphAsker: laid · FnGraphAsked: laid · FnTurnsHeard: laid · FnTurnsKept: laid.
  DERIVED. THE GIVEN ROWS OF THIS SEAT. 9 by the template 'for every input the law returns true; each argument reads behind the call as it read before'; 0 by the template 'total and deterministic' (their statements: YtlcegpmhlnilfabDoorTotals.lean).
  GIVEN WITH THE SEED: the statements are not yours to turn. If you find one false, say at which input.
  Laid BY PROGRAM, IN A SANDBOX (cutbox-rows.mjs): the forced cells as the released guide's own fill.sh prints them over the translation 5b9b49cc1731b694… (all of the seat's roots in one cut). By AI agents, Wed Nov 11 2026. No macro, syntax, notation, axiom, sorry.
-/
import Derived.Test.YtlcegpmhlnilfabDoorChecked
import GoSem.Claim
import GoSem.ClaimJoined
import GoSem.ClaimMapViews
import Derived.JoinedTies
import Derived.KernelRfl
namespace Go.Proofs.YtlcegpmhlnilfabDoor
/- THE CELL 'sum', in the pinned program and in every row, IS THE sha256 OF THE DUMP (.gsa) THAT YtlcegpmhlnilfabDoorProg.lean LOADS. Nothing in Lean hashes anything: it is a label: what it is worth is what the hold of that sum in a sandbox is worth. -/
noncomputable def Tryd.pinned : Pinned := { name := "ytlcegpmhlnilfabdoor", sum := "5b9b49cc1731b694ef161037a15b93f1a8d115b3db7df5c4ba6cd3cd98d21be1", checked := Tryd.checked }
namespace Rows
def none {H : Type} : Left H := { results := [], args := [] }

/- WHAT THE LISTED PACKAGE-LEVEL VARIABLES READ AS WHEN THE CALL BEGINS. Each datum BY PROGRAM (the guide's laid-datum.mjs) off the statement by which the dump's own 'gosem.cut.vars' lays the variable. In a bare row this is a premise. The card (YtlcegpmhlnilfabDoorCards.lean) ties it to the program's text. -/
def laid_loop_example_sigmaproofs_impl_groups {H : Type} : DataW H := .agg [.agg [.lit (.int .i64 7), .lit (.int .i64 3), .lit (.int .i64 2)], .agg [.lit (.int .i64 11), .lit (.int .i64 5), .lit (.int .i64 3)], .agg [.lit (.int .i64 23), .lit (.int .i64 11), .lit (.int .i64 2)], .agg [.lit (.int .i64 47), .lit (.int .i64 23), .lit (.int .i64 2)]]

/-- 'laws.FnTurnTable': WHATEVER THE INPUT: true; the input reads as it did. -/
def fnTurnTableSpec : ChangeSpec := { name := "fnTurnTable", vars := ["loop.example/sigmaproofs/impl.groups"], fn := fun _ => fun
  | [d, g1] => { results := [.lit (.bool true)], args := [d], vars := [g1] }
  | _ => none }
def fnTurnTableRow : OpenClaim := { program := "ytlcegpmhlnilfabdoor", sum := "5b9b49cc1731b694ef161037a15b93f1a8d115b3db7df5c4ba6cd3cd98d21be1", func := "loop.example/sigmaproofs/laws.FnTurnTable", spec := "fnTurnTable", inPlace := ["(*sync.WaitGroup).Add", "internal/race.ReleaseMerge", "internal/race.Disable", "internal/race.Enable", "internal/synctest.IsInBubble", "internal/synctest.Associate[sync.WaitGroup]", "sync.fatal", "sync/atomic.OrUint64", "sync/atomic.AddUint64", "internal/race.Read", "sync/atomic.LoadUint64", "sync/atomic.StoreUint64", "internal/synctest.Disassociate[sync.WaitGroup]", "sync.runtime_Semrelease", "(*sync.WaitGroup).Done", "(*sync.WaitGroup).Wait", "internal/race.Acquire", "internal/synctest.IsAssociated[sync.WaitGroup]", "sync/atomic.CompareAndSwapUint64", "internal/race.Write", "sync.runtime_SemacquireWaitGroup"], unfollowed := true, recurses := true, named := ["loop.example/sigmaproofs/impl.groups"], leaving := true, apart := false, laid := [("loop.example/sigmaproofs/impl.groups", laid_loop_example_sigmaproofs_impl_groups)] }
def FnTurnTableSaid : Prop := fnTurnTableRow.holds Tryd.pinned (OpenSpec.ofChange fnTurnTableSpec)

/-- ITS FALSE NEIGHBOUR: 'it returns false'. Refute it at one input. -/
def fnTurnTableWrong : ChangeSpec := { name := "fnTurnTable", vars := ["loop.example/sigmaproofs/impl.groups"], fn := fun _ => fun
  | [d, g1] => { results := [.lit (.bool false)], args := [d], vars := [g1] }
  | _ => none }
def FnTurnTableWrongFalsely : Prop := fnTurnTableRow.holds Tryd.pinned (OpenSpec.ofChange fnTurnTableWrong)

/-- 'laws.FnAskerOk': WHATEVER THE INPUT: true; the input reads as it did. -/
def fnAskerOkSpec : ChangeSpec := { name := "fnAskerOk", vars := ["loop.example/sigmaproofs/impl.groups"], fn := fun _ => fun
  | [d, g1] => { results := [.lit (.bool true)], args := [d], vars := [g1] }
  | _ => none }
def fnAskerOkRow : OpenClaim := { program := "ytlcegpmhlnilfabdoor", sum := "5b9b49cc1731b694ef161037a15b93f1a8d115b3db7df5c4ba6cd3cd98d21be1", func := "loop.example/sigmaproofs/laws.FnAskerOk", spec := "fnAskerOk", named := ["loop.example/sigmaproofs/impl.groups"], apart := false, laid := [("loop.example/sigmaproofs/impl.groups", laid_loop_example_sigmaproofs_impl_groups)] }
def FnAskerOkSaid : Prop := fnAskerOkRow.holds Tryd.pinned (OpenSpec.ofChange fnAskerOkSpec)

/-- ITS FALSE NEIGHBOUR: 'it returns false'. Refute it at one input. -/
def fnAskerOkWrong : ChangeSpec := { name := "fnAskerOk", vars := ["loop.example/sigmaproofs/impl.groups"], fn := fun _ => fun
  | [d, g1] => { results := [.lit (.bool false)], args := [d], vars := [g1] }
  | _ => none }
def FnAskerOkWrongFalsely : Prop := fnAskerOkRow.holds Tryd.pinned (OpenSpec.ofChange fnAskerOkWrong)

/-- 'laws.FnAskedBy': WHATEVER THE INPUT: true; the input reads as it did. -/
def fnAskedBySpec : ChangeSpec := { name := "fnAskedBy", vars := ["loop.example/sigmaproofs/impl.groups"], fn := fun _ => fun
  | [d, g1] => { results := [.lit (.bool true)], args := [d], vars := [g1] }
  | _ => none }
def fnAskedByRow : OpenClaim := { program := "ytlcegpmhlnilfabdoor", sum := "5b9b49cc1731b694ef161037a15b93f1a8d115b3db7df5c4ba6cd3cd98d21be1", func := "loop.example/sigmaproofs/laws.FnAskedBy", spec := "fnAskedBy", named := ["loop.example/sigmaproofs/impl.groups"], apart := false, laid := [("loop.example/sigmaproofs/impl.groups", laid_loop_example_sigmaproofs_impl_groups)] }
def FnAskedBySaid : Prop := fnAskedByRow.holds Tryd.pinned (OpenSpec.ofChange fnAskedBySpec)

/-- ITS FALSE NEIGHBOUR: 'it returns false'. Refute it at one input. -/
def fnAskedByWrong : ChangeSpec := { name := "fnAskedBy", vars := ["loop.example/sigmaproofs/impl.groups"], fn := fun _ => fun
  | [d, g1] => { results := [.lit (.bool false)], args := [d], vars := [g1] }
  | _ => none }
def FnAskedByWrongFalsely : Prop := fnAskedByRow.holds Tryd.pinned (OpenSpec.ofChange fnAskedByWrong)

/-- 'laws.FnHeardFrom': WHATEVER THE INPUT: true; the input reads as it did. -/
def fnHeardFromSpec : ChangeSpec := { name := "fnHeardFrom", vars := ["loop.example/sigmaproofs/impl.groups"], fn := fun _ => fun
  | [d, g1] => { results := [.lit (.bool true)], args := [d], vars := [g1] }
  | _ => none }
def fnHeardFromRow : OpenClaim := { program := "ytlcegpmhlnilfabdoor", sum := "5b9b49cc1731b694ef161037a15b93f1a8d115b3db7df5c4ba6cd3cd98d21be1", func := "loop.example/sigmaproofs/laws.FnHeardFrom", spec := "fnHeardFrom", unfollowed := true, recurses := true, named := ["loop.example/sigmaproofs/impl.groups"], leaving := true, apart := false, laid := [("loop.example/sigmaproofs/impl.groups", laid_loop_example_sigmaproofs_impl_groups)] }
def FnHeardFromSaid : Prop := fnHeardFromRow.holds Tryd.pinned (OpenSpec.ofChange fnHeardFromSpec)

/-- ITS FALSE NEIGHBOUR: 'it returns false'. Refute it at one input. -/
def fnHeardFromWrong : ChangeSpec := { name := "fnHeardFrom", vars := ["loop.example/sigmaproofs/impl.groups"], fn := fun _ => fun
  | [d, g1] => { results := [.lit (.bool false)], args := [d], vars := [g1] }
  | _ => none }
def FnHeardFromWrongFalsely : Prop := fnHeardFromRow.holds Tryd.pinned (OpenSpec.ofChange fnHeardFromWrong)

/-- 'laws.FnKeptBy': WHATEVER THE INPUT: true; the input reads as it did. -/
def fnKeptBySpec : ChangeSpec := { name := "fnKeptBy", vars := ["loop.example/sigmaproofs/impl.groups"], fn := fun _ => fun
  | [d, g1] => { results := [.lit (.bool true)], args := [d], vars := [g1] }
  | _ => none }
def fnKeptByRow : OpenClaim := { program := "ytlcegpmhlnilfabdoor", sum := "5b9b49cc1731b694ef161037a15b93f1a8d115b3db7df5c4ba6cd3cd98d21be1", func := "loop.example/sigmaproofs/laws.FnKeptBy", spec := "fnKeptBy", unfollowed := true, recurses := true, named := ["loop.example/sigmaproofs/impl.groups"], leaving := true, apart := false, laid := [("loop.example/sigmaproofs/impl.groups", laid_loop_example_sigmaproofs_impl_groups)] }
def FnKeptBySaid : Prop := fnKeptByRow.holds Tryd.pinned (OpenSpec.ofChange fnKeptBySpec)

/-- ITS FALSE NEIGHBOUR: 'it returns false'. Refute it at one input. -/
def fnKeptByWrong : ChangeSpec := { name := "fnKeptBy", vars := ["loop.example/sigmaproofs/impl.groups"], fn := fun _ => fun
  | [d, g1] => { results := [.lit (.bool false)], args := [d], vars := [g1] }
  | _ => none }
def FnKeptByWrongFalsely : Prop := fnKeptByRow.holds Tryd.pinned (OpenSpec.ofChange fnKeptByWrong)

/-- 'laws.FnGraphAsker': WHATEVER THE INPUT: true; the input reads as it did. -/
def fnGraphAskerSpec : ChangeSpec := { name := "fnGraphAsker", vars := ["loop.example/sigmaproofs/impl.groups"], fn := fun _ => fun
  | [d, g1] => { results := [.lit (.bool true)], args := [d], vars := [g1] }
  | _ => none }
def fnGraphAskerRow : OpenClaim := { program := "ytlcegpmhlnilfabdoor", sum := "5b9b49cc1731b694ef161037a15b93f1a8d115b3db7df5c4ba6cd3cd98d21be1", func := "loop.example/sigmaproofs/laws.FnGraphAsker", spec := "fnGraphAsker", named := ["loop.example/sigmaproofs/impl.groups"], apart := false, laid := [("loop.example/sigmaproofs/impl.groups", laid_loop_example_sigmaproofs_impl_groups)] }
def FnGraphAskerSaid : Prop := fnGraphAskerRow.holds Tryd.pinned (OpenSpec.ofChange fnGraphAskerSpec)

/-- ITS FALSE NEIGHBOUR: 'it returns false'. Refute it at one input. -/
def fnGraphAskerWrong : ChangeSpec := { name := "fnGraphAsker", vars := ["loop.example/sigmaproofs/impl.groups"], fn := fun _ => fun
  | [d, g1] => { results := [.lit (.bool false)], args := [d], vars := [g1] }
  | _ => none }
def FnGraphAskerWrongFalsely : Prop := fnGraphAskerRow.holds Tryd.pinned (OpenSpec.ofChange fnGraphAskerWrong)

/-- 'laws.FnGraphAsked': WHATEVER THE INPUT: true; the input reads as it did. -/
def fnGraphAskedSpec : ChangeSpec := { name := "fnGraphAsked", vars := ["loop.example/sigmaproofs/impl.groups"], fn := fun _ => fun
  | [d, g1] => { results := [.lit (.bool true)], args := [d], vars := [g1] }
  | _ => none }
def fnGraphAskedRow : OpenClaim := { program := "ytlcegpmhlnilfabdoor", sum := "5b9b49cc1731b694ef161037a15b93f1a8d115b3db7df5c4ba6cd3cd98d21be1", func := "loop.example/sigmaproofs/laws.FnGraphAsked", spec := "fnGraphAsked", named := ["loop.example/sigmaproofs/impl.groups"], apart := false, laid := [("loop.example/sigmaproofs/impl.groups", laid_loop_example_sigmaproofs_impl_groups)] }
def FnGraphAskedSaid : Prop := fnGraphAskedRow.holds Tryd.pinned (OpenSpec.ofChange fnGraphAskedSpec)

/-- ITS FALSE NEIGHBOUR: 'it returns false'. Refute it at one input. -/
def fnGraphAskedWrong : ChangeSpec := { name := "fnGraphAsked", vars := ["loop.example/sigmaproofs/impl.groups"], fn := fun _ => fun
  | [d, g1] => { results := [.lit (.bool false)], args := [d], vars := [g1] }
  | _ => none }
def FnGraphAskedWrongFalsely : Prop := fnGraphAskedRow.holds Tryd.pinned (OpenSpec.ofChange fnGraphAskedWrong)

/-- 'laws.FnTurnsHeard': WHATEVER THE INPUT: true; the input reads as it did. -/
def fnTurnsHeardSpec : ChangeSpec := { name := "fnTurnsHeard", vars := ["loop.example/sigmaproofs/impl.groups"], fn := fun _ => fun
  | [d, g1] => { results := [.lit (.bool true)], args := [d], vars := [g1] }
  | _ => none }
def fnTurnsHeardRow : OpenClaim := { program := "ytlcegpmhlnilfabdoor", sum := "5b9b49cc1731b694ef161037a15b93f1a8d115b3db7df5c4ba6cd3cd98d21be1", func := "loop.example/sigmaproofs/laws.FnTurnsHeard", spec := "fnTurnsHeard", unfollowed := true, recurses := true, named := ["loop.example/sigmaproofs/impl.groups"], leaving := true, apart := false, laid := [("loop.example/sigmaproofs/impl.groups", laid_loop_example_sigmaproofs_impl_groups)] }
def FnTurnsHeardSaid : Prop := fnTurnsHeardRow.holds Tryd.pinned (OpenSpec.ofChange fnTurnsHeardSpec)

/-- ITS FALSE NEIGHBOUR: 'it returns false'. Refute it at one input. -/
def fnTurnsHeardWrong : ChangeSpec := { name := "fnTurnsHeard", vars := ["loop.example/sigmaproofs/impl.groups"], fn := fun _ => fun
  | [d, g1] => { results := [.lit (.bool false)], args := [d], vars := [g1] }
  | _ => none }
def FnTurnsHeardWrongFalsely : Prop := fnTurnsHeardRow.holds Tryd.pinned (OpenSpec.ofChange fnTurnsHeardWrong)

/-- 'laws.FnTurnsKept': WHATEVER THE INPUT: true; the input reads as it did. -/
def fnTurnsKeptSpec : ChangeSpec := { name := "fnTurnsKept", vars := ["loop.example/sigmaproofs/impl.groups"], fn := fun _ => fun
  | [d, g1] => { results := [.lit (.bool true)], args := [d], vars := [g1] }
  | _ => none }
def fnTurnsKeptRow : OpenClaim := { program := "ytlcegpmhlnilfabdoor", sum := "5b9b49cc1731b694ef161037a15b93f1a8d115b3db7df5c4ba6cd3cd98d21be1", func := "loop.example/sigmaproofs/laws.FnTurnsKept", spec := "fnTurnsKept", unfollowed := true, recurses := true, named := ["loop.example/sigmaproofs/impl.groups"], leaving := true, apart := false, laid := [("loop.example/sigmaproofs/impl.groups", laid_loop_example_sigmaproofs_impl_groups)] }
def FnTurnsKeptSaid : Prop := fnTurnsKeptRow.holds Tryd.pinned (OpenSpec.ofChange fnTurnsKeptSpec)

/-- ITS FALSE NEIGHBOUR: 'it returns false'. Refute it at one input. -/
def fnTurnsKeptWrong : ChangeSpec := { name := "fnTurnsKept", vars := ["loop.example/sigmaproofs/impl.groups"], fn := fun _ => fun
  | [d, g1] => { results := [.lit (.bool false)], args := [d], vars := [g1] }
  | _ => none }
def FnTurnsKeptWrongFalsely : Prop := fnTurnsKeptRow.holds Tryd.pinned (OpenSpec.ofChange fnTurnsKeptWrong)

/- THE SECOND FORM. 'bulk': how many values and letters a reading holds, each counted each time it is reached (what is shared counts as often as it is met; a slice's spare places count too). A statement '..UptoSaid' is the law's where the arguments, and the package variables that the reading takes, are together of bulk at most 1048576: NARROWER than '..Said'. Prove '..Said' where nothing that the law and all that it calls make is longer than what came in: it says more and counts as full. Else prove '..UptoSaid'. A law counts once. -/
mutual
def uptoBulk {H : Type} : DataW H → Nat
  | .lit (.string bytes) => bytes.length + 1
  | .lit _ => 1
  | .nil => 1
  | .ptr d => uptoBulk d + 1
  | .slice elems spare => uptoBulkAll elems + uptoBulkAll spare + 1
  | .agg parts => uptoBulkAll parts + 1
  | .iface _ d => uptoBulk d + 1
  | .map entries => uptoBulkEntries entries + 1
  | .held _ => 1
def uptoBulkAll {H : Type} : List (DataW H) → Nat
  | [] => 0
  | d :: r => uptoBulk d + uptoBulkAll r
def uptoBulkEntries {H : Type} : List (Lit × DataW H) → Nat
  | [] => 0
  | x :: r => uptoBulkEntry x + uptoBulkEntries r
def uptoBulkEntry {H : Type} : Lit × DataW H → Nat
  | (.string bytes, d) => bytes.length + uptoBulk d + 1
  | (_, d) => uptoBulk d + 1
 end
def uptoSmall : (H : Type) → List (DataW H) → Bool := fun _ ds => decide (uptoBulkAll ds ≤ 1048576)
def OpenSpec.upto (s : _root_.Go.ChangeSpec) : _root_.Go.OpenSpec := { _root_.Go.OpenSpec.ofChange s with cond := some uptoSmall }

/-- 'laws.FnTurnTable', WHERE WHAT IT READS IS OF BULK AT MOST 1048576: true; the input reads as it did. -/
def fnTurnTableUptoRow : OpenClaim := { program := "ytlcegpmhlnilfabdoor", sum := "5b9b49cc1731b694ef161037a15b93f1a8d115b3db7df5c4ba6cd3cd98d21be1", func := "loop.example/sigmaproofs/laws.FnTurnTable", spec := "fnTurnTable", inPlace := ["(*sync.WaitGroup).Add", "internal/race.ReleaseMerge", "internal/race.Disable", "internal/race.Enable", "internal/synctest.IsInBubble", "internal/synctest.Associate[sync.WaitGroup]", "sync.fatal", "sync/atomic.OrUint64", "sync/atomic.AddUint64", "internal/race.Read", "sync/atomic.LoadUint64", "sync/atomic.StoreUint64", "internal/synctest.Disassociate[sync.WaitGroup]", "sync.runtime_Semrelease", "(*sync.WaitGroup).Done", "(*sync.WaitGroup).Wait", "internal/race.Acquire", "internal/synctest.IsAssociated[sync.WaitGroup]", "sync/atomic.CompareAndSwapUint64", "internal/race.Write", "sync.runtime_SemacquireWaitGroup"], unfollowed := true, recurses := true, named := ["loop.example/sigmaproofs/impl.groups"], leaving := true, apart := false, laid := [("loop.example/sigmaproofs/impl.groups", laid_loop_example_sigmaproofs_impl_groups)], narrowed := true }
def FnTurnTableUptoSaid : Prop := fnTurnTableUptoRow.holds Tryd.pinned (OpenSpec.upto fnTurnTableSpec)

/-- 'laws.FnAskerOk', WHERE WHAT IT READS IS OF BULK AT MOST 1048576: true; the input reads as it did. -/
def fnAskerOkUptoRow : OpenClaim := { program := "ytlcegpmhlnilfabdoor", sum := "5b9b49cc1731b694ef161037a15b93f1a8d115b3db7df5c4ba6cd3cd98d21be1", func := "loop.example/sigmaproofs/laws.FnAskerOk", spec := "fnAskerOk", named := ["loop.example/sigmaproofs/impl.groups"], apart := false, laid := [("loop.example/sigmaproofs/impl.groups", laid_loop_example_sigmaproofs_impl_groups)], narrowed := true }
def FnAskerOkUptoSaid : Prop := fnAskerOkUptoRow.holds Tryd.pinned (OpenSpec.upto fnAskerOkSpec)

/-- 'laws.FnAskedBy', WHERE WHAT IT READS IS OF BULK AT MOST 1048576: true; the input reads as it did. -/
def fnAskedByUptoRow : OpenClaim := { program := "ytlcegpmhlnilfabdoor", sum := "5b9b49cc1731b694ef161037a15b93f1a8d115b3db7df5c4ba6cd3cd98d21be1", func := "loop.example/sigmaproofs/laws.FnAskedBy", spec := "fnAskedBy", named := ["loop.example/sigmaproofs/impl.groups"], apart := false, laid := [("loop.example/sigmaproofs/impl.groups", laid_loop_example_sigmaproofs_impl_groups)], narrowed := true }
def FnAskedByUptoSaid : Prop := fnAskedByUptoRow.holds Tryd.pinned (OpenSpec.upto fnAskedBySpec)

/-- 'laws.FnHeardFrom', WHERE WHAT IT READS IS OF BULK AT MOST 1048576: true; the input reads as it did. -/
def fnHeardFromUptoRow : OpenClaim := { program := "ytlcegpmhlnilfabdoor", sum := "5b9b49cc1731b694ef161037a15b93f1a8d115b3db7df5c4ba6cd3cd98d21be1", func := "loop.example/sigmaproofs/laws.FnHeardFrom", spec := "fnHeardFrom", unfollowed := true, recurses := true, named := ["loop.example/sigmaproofs/impl.groups"], leaving := true, apart := false, laid := [("loop.example/sigmaproofs/impl.groups", laid_loop_example_sigmaproofs_impl_groups)], narrowed := true }
def FnHeardFromUptoSaid : Prop := fnHeardFromUptoRow.holds Tryd.pinned (OpenSpec.upto fnHeardFromSpec)

/-- 'laws.FnKeptBy', WHERE WHAT IT READS IS OF BULK AT MOST 1048576: true; the input reads as it did. -/
def fnKeptByUptoRow : OpenClaim := { program := "ytlcegpmhlnilfabdoor", sum := "5b9b49cc1731b694ef161037a15b93f1a8d115b3db7df5c4ba6cd3cd98d21be1", func := "loop.example/sigmaproofs/laws.FnKeptBy", spec := "fnKeptBy", unfollowed := true, recurses := true, named := ["loop.example/sigmaproofs/impl.groups"], leaving := true, apart := false, laid := [("loop.example/sigmaproofs/impl.groups", laid_loop_example_sigmaproofs_impl_groups)], narrowed := true }
def FnKeptByUptoSaid : Prop := fnKeptByUptoRow.holds Tryd.pinned (OpenSpec.upto fnKeptBySpec)

/-- 'laws.FnGraphAsker', WHERE WHAT IT READS IS OF BULK AT MOST 1048576: true; the input reads as it did. -/
def fnGraphAskerUptoRow : OpenClaim := { program := "ytlcegpmhlnilfabdoor", sum := "5b9b49cc1731b694ef161037a15b93f1a8d115b3db7df5c4ba6cd3cd98d21be1", func := "loop.example/sigmaproofs/laws.FnGraphAsker", spec := "fnGraphAsker", named := ["loop.example/sigmaproofs/impl.groups"], apart := false, laid := [("loop.example/sigmaproofs/impl.groups", laid_loop_example_sigmaproofs_impl_groups)], narrowed := true }
def FnGraphAskerUptoSaid : Prop := fnGraphAskerUptoRow.holds Tryd.pinned (OpenSpec.upto fnGraphAskerSpec)

/-- 'laws.FnGraphAsked', WHERE WHAT IT READS IS OF BULK AT MOST 1048576: true; the input reads as it did. -/
def fnGraphAskedUptoRow : OpenClaim := { program := "ytlcegpmhlnilfabdoor", sum := "5b9b49cc1731b694ef161037a15b93f1a8d115b3db7df5c4ba6cd3cd98d21be1", func := "loop.example/sigmaproofs/laws.FnGraphAsked", spec := "fnGraphAsked", named := ["loop.example/sigmaproofs/impl.groups"], apart := false, laid := [("loop.example/sigmaproofs/impl.groups", laid_loop_example_sigmaproofs_impl_groups)], narrowed := true }
def FnGraphAskedUptoSaid : Prop := fnGraphAskedUptoRow.holds Tryd.pinned (OpenSpec.upto fnGraphAskedSpec)

/-- 'laws.FnTurnsHeard', WHERE WHAT IT READS IS OF BULK AT MOST 1048576: true; the input reads as it did. -/
def fnTurnsHeardUptoRow : OpenClaim := { program := "ytlcegpmhlnilfabdoor", sum := "5b9b49cc1731b694ef161037a15b93f1a8d115b3db7df5c4ba6cd3cd98d21be1", func := "loop.example/sigmaproofs/laws.FnTurnsHeard", spec := "fnTurnsHeard", unfollowed := true, recurses := true, named := ["loop.example/sigmaproofs/impl.groups"], leaving := true, apart := false, laid := [("loop.example/sigmaproofs/impl.groups", laid_loop_example_sigmaproofs_impl_groups)], narrowed := true }
def FnTurnsHeardUptoSaid : Prop := fnTurnsHeardUptoRow.holds Tryd.pinned (OpenSpec.upto fnTurnsHeardSpec)

/-- 'laws.FnTurnsKept', WHERE WHAT IT READS IS OF BULK AT MOST 1048576: true; the input reads as it did. -/
def fnTurnsKeptUptoRow : OpenClaim := { program := "ytlcegpmhlnilfabdoor", sum := "5b9b49cc1731b694ef161037a15b93f1a8d115b3db7df5c4ba6cd3cd98d21be1", func := "loop.example/sigmaproofs/laws.FnTurnsKept", spec := "fnTurnsKept", unfollowed := true, recurses := true, named := ["loop.example/sigmaproofs/impl.groups"], leaving := true, apart := false, laid := [("loop.example/sigmaproofs/impl.groups", laid_loop_example_sigmaproofs_impl_groups)], narrowed := true }
def FnTurnsKeptUptoSaid : Prop := fnTurnsKeptUptoRow.holds Tryd.pinned (OpenSpec.upto fnTurnsKeptSpec)

end Rows
end Go.Proofs.YtlcegpmhlnilfabDoor
