/-
  NARROWER THAN 'FOR EVERY INPUT', by the rows' own cells (each row's printed sentence says how): FnFailsOf: laid · FnColoured: laid · FnColoursOf: laid · FnPainted: laid · FnViewsOf: laid · FnViewsMade: laid · FnBestCheat: laid · FnFoundOut: laid · FnOrdersBetween: laid · FnOrderOk: laid · FnGraphOk: laid · FnOrderBack: laid.
  DERIVED. THE GIVEN ROWS OF THIS SEAT. 12 by the template 'for every input the law returns true; each argument reads behind the call as it read before'; 0 by the template 'total and deterministic' (their statements: YtimkmdedoacpfabDoorTotals.lean).
  GIVEN WITH THE SEED: the statements are not yours to turn. If you find one false, say at which input.
  Laid BY PROGRAM, IN A SANDBOX (cutbox-rows.mjs): the forced cells as the released guide's own fill.sh prints them over the translation d9dd99a2fb7e79d1… (all of the seat's roots in one cut). By AI agents, Wed Nov 11 2026. No macro, syntax, notation, axiom, sorry.
-/
import Derived.Test.YtimkmdedoacpfabDoorChecked
import GoSem.Claim
import GoSem.ClaimJoined
import GoSem.ClaimMapViews
import Derived.JoinedTies
import Derived.KernelRfl
namespace Go.Proofs.YtimkmdedoacpfabDoor
/- THE CELL 'sum', in the pinned program and in every row, IS THE sha256 OF THE DUMP (.gsa) THAT YtimkmdedoacpfabDoorProg.lean LOADS. Nothing in Lean hashes anything: it is a label: what it is worth is what the hold of that sum in a sandbox is worth. -/
noncomputable def Tryd.pinned : Pinned := { name := "ytimkmdedoacpfabdoor", sum := "d9dd99a2fb7e79d1ae48f1fcb5cc650ed18583d0d8b32f87395b8fbbd73a23cd", checked := Tryd.checked }
namespace Rows
def none {H : Type} : Left H := { results := [], args := [] }

/- WHAT THE LISTED PACKAGE-LEVEL VARIABLES READ AS WHEN THE CALL BEGINS. Each datum BY PROGRAM (the guide's laid-datum.mjs) off the statement by which the dump's own 'gosem.cut.vars' lays the variable. In a bare row this is a premise. The card (YtimkmdedoacpfabDoorCards.lean) ties it to the program's text. -/
def laid_loop_example_sigmaproofs_impl_groups {H : Type} : DataW H := .agg [.agg [.lit (.int .i64 7), .lit (.int .i64 3), .lit (.int .i64 2)], .agg [.lit (.int .i64 11), .lit (.int .i64 5), .lit (.int .i64 3)], .agg [.lit (.int .i64 23), .lit (.int .i64 11), .lit (.int .i64 2)], .agg [.lit (.int .i64 47), .lit (.int .i64 23), .lit (.int .i64 2)]]

/-- 'laws.FnFailsOf': WHATEVER THE INPUT: true; the input reads as it did. -/
def fnFailsOfSpec : ChangeSpec := { name := "fnFailsOf", vars := ["loop.example/sigmaproofs/impl.groups"], fn := fun _ => fun
  | [d, g1] => { results := [.lit (.bool true)], args := [d], vars := [g1] }
  | _ => none }
def fnFailsOfRow : OpenClaim := { program := "ytimkmdedoacpfabdoor", sum := "d9dd99a2fb7e79d1ae48f1fcb5cc650ed18583d0d8b32f87395b8fbbd73a23cd", func := "loop.example/sigmaproofs/laws.FnFailsOf", spec := "fnFailsOf", named := ["loop.example/sigmaproofs/impl.groups"], apart := false, laid := [("loop.example/sigmaproofs/impl.groups", laid_loop_example_sigmaproofs_impl_groups)] }
def FnFailsOfSaid : Prop := fnFailsOfRow.holds Tryd.pinned (OpenSpec.ofChange fnFailsOfSpec)

/-- ITS FALSE NEIGHBOUR: 'it returns false'. Refute it at one input. -/
def fnFailsOfWrong : ChangeSpec := { name := "fnFailsOf", vars := ["loop.example/sigmaproofs/impl.groups"], fn := fun _ => fun
  | [d, g1] => { results := [.lit (.bool false)], args := [d], vars := [g1] }
  | _ => none }
def FnFailsOfWrongFalsely : Prop := fnFailsOfRow.holds Tryd.pinned (OpenSpec.ofChange fnFailsOfWrong)

/-- 'laws.FnColoured': WHATEVER THE INPUT: true; the input reads as it did. -/
def fnColouredSpec : ChangeSpec := { name := "fnColoured", vars := ["loop.example/sigmaproofs/impl.groups"], fn := fun _ => fun
  | [d, g1] => { results := [.lit (.bool true)], args := [d], vars := [g1] }
  | _ => none }
def fnColouredRow : OpenClaim := { program := "ytimkmdedoacpfabdoor", sum := "d9dd99a2fb7e79d1ae48f1fcb5cc650ed18583d0d8b32f87395b8fbbd73a23cd", func := "loop.example/sigmaproofs/laws.FnColoured", spec := "fnColoured", named := ["loop.example/sigmaproofs/impl.groups"], apart := false, laid := [("loop.example/sigmaproofs/impl.groups", laid_loop_example_sigmaproofs_impl_groups)] }
def FnColouredSaid : Prop := fnColouredRow.holds Tryd.pinned (OpenSpec.ofChange fnColouredSpec)

/-- ITS FALSE NEIGHBOUR: 'it returns false'. Refute it at one input. -/
def fnColouredWrong : ChangeSpec := { name := "fnColoured", vars := ["loop.example/sigmaproofs/impl.groups"], fn := fun _ => fun
  | [d, g1] => { results := [.lit (.bool false)], args := [d], vars := [g1] }
  | _ => none }
def FnColouredWrongFalsely : Prop := fnColouredRow.holds Tryd.pinned (OpenSpec.ofChange fnColouredWrong)

/-- 'laws.FnColoursOf': WHATEVER THE INPUT: true; the input reads as it did. -/
def fnColoursOfSpec : ChangeSpec := { name := "fnColoursOf", vars := ["loop.example/sigmaproofs/impl.groups"], fn := fun _ => fun
  | [d, g1] => { results := [.lit (.bool true)], args := [d], vars := [g1] }
  | _ => none }
def fnColoursOfRow : OpenClaim := { program := "ytimkmdedoacpfabdoor", sum := "d9dd99a2fb7e79d1ae48f1fcb5cc650ed18583d0d8b32f87395b8fbbd73a23cd", func := "loop.example/sigmaproofs/laws.FnColoursOf", spec := "fnColoursOf", named := ["loop.example/sigmaproofs/impl.groups"], apart := false, laid := [("loop.example/sigmaproofs/impl.groups", laid_loop_example_sigmaproofs_impl_groups)] }
def FnColoursOfSaid : Prop := fnColoursOfRow.holds Tryd.pinned (OpenSpec.ofChange fnColoursOfSpec)

/-- ITS FALSE NEIGHBOUR: 'it returns false'. Refute it at one input. -/
def fnColoursOfWrong : ChangeSpec := { name := "fnColoursOf", vars := ["loop.example/sigmaproofs/impl.groups"], fn := fun _ => fun
  | [d, g1] => { results := [.lit (.bool false)], args := [d], vars := [g1] }
  | _ => none }
def FnColoursOfWrongFalsely : Prop := fnColoursOfRow.holds Tryd.pinned (OpenSpec.ofChange fnColoursOfWrong)

/-- 'laws.FnPainted': WHATEVER THE INPUT: true; the input reads as it did. -/
def fnPaintedSpec : ChangeSpec := { name := "fnPainted", vars := ["loop.example/sigmaproofs/impl.groups"], fn := fun _ => fun
  | [d, g1] => { results := [.lit (.bool true)], args := [d], vars := [g1] }
  | _ => none }
def fnPaintedRow : OpenClaim := { program := "ytimkmdedoacpfabdoor", sum := "d9dd99a2fb7e79d1ae48f1fcb5cc650ed18583d0d8b32f87395b8fbbd73a23cd", func := "loop.example/sigmaproofs/laws.FnPainted", spec := "fnPainted", named := ["loop.example/sigmaproofs/impl.groups"], apart := false, laid := [("loop.example/sigmaproofs/impl.groups", laid_loop_example_sigmaproofs_impl_groups)] }
def FnPaintedSaid : Prop := fnPaintedRow.holds Tryd.pinned (OpenSpec.ofChange fnPaintedSpec)

/-- ITS FALSE NEIGHBOUR: 'it returns false'. Refute it at one input. -/
def fnPaintedWrong : ChangeSpec := { name := "fnPainted", vars := ["loop.example/sigmaproofs/impl.groups"], fn := fun _ => fun
  | [d, g1] => { results := [.lit (.bool false)], args := [d], vars := [g1] }
  | _ => none }
def FnPaintedWrongFalsely : Prop := fnPaintedRow.holds Tryd.pinned (OpenSpec.ofChange fnPaintedWrong)

/-- 'laws.FnViewsOf': WHATEVER THE INPUT: true; the input reads as it did. -/
def fnViewsOfSpec : ChangeSpec := { name := "fnViewsOf", vars := ["loop.example/sigmaproofs/impl.groups"], fn := fun _ => fun
  | [d, g1] => { results := [.lit (.bool true)], args := [d], vars := [g1] }
  | _ => none }
def fnViewsOfRow : OpenClaim := { program := "ytimkmdedoacpfabdoor", sum := "d9dd99a2fb7e79d1ae48f1fcb5cc650ed18583d0d8b32f87395b8fbbd73a23cd", func := "loop.example/sigmaproofs/laws.FnViewsOf", spec := "fnViewsOf", unfollowed := true, recurses := true, named := ["loop.example/sigmaproofs/impl.groups"], apart := false, laid := [("loop.example/sigmaproofs/impl.groups", laid_loop_example_sigmaproofs_impl_groups)] }
def FnViewsOfSaid : Prop := fnViewsOfRow.holds Tryd.pinned (OpenSpec.ofChange fnViewsOfSpec)

/-- ITS FALSE NEIGHBOUR: 'it returns false'. Refute it at one input. -/
def fnViewsOfWrong : ChangeSpec := { name := "fnViewsOf", vars := ["loop.example/sigmaproofs/impl.groups"], fn := fun _ => fun
  | [d, g1] => { results := [.lit (.bool false)], args := [d], vars := [g1] }
  | _ => none }
def FnViewsOfWrongFalsely : Prop := fnViewsOfRow.holds Tryd.pinned (OpenSpec.ofChange fnViewsOfWrong)

/-- 'laws.FnViewsMade': WHATEVER THE INPUT: true; the input reads as it did. -/
def fnViewsMadeSpec : ChangeSpec := { name := "fnViewsMade", vars := ["loop.example/sigmaproofs/impl.groups"], fn := fun _ => fun
  | [d, g1] => { results := [.lit (.bool true)], args := [d], vars := [g1] }
  | _ => none }
def fnViewsMadeRow : OpenClaim := { program := "ytimkmdedoacpfabdoor", sum := "d9dd99a2fb7e79d1ae48f1fcb5cc650ed18583d0d8b32f87395b8fbbd73a23cd", func := "loop.example/sigmaproofs/laws.FnViewsMade", spec := "fnViewsMade", named := ["loop.example/sigmaproofs/impl.groups"], apart := false, laid := [("loop.example/sigmaproofs/impl.groups", laid_loop_example_sigmaproofs_impl_groups)] }
def FnViewsMadeSaid : Prop := fnViewsMadeRow.holds Tryd.pinned (OpenSpec.ofChange fnViewsMadeSpec)

/-- ITS FALSE NEIGHBOUR: 'it returns false'. Refute it at one input. -/
def fnViewsMadeWrong : ChangeSpec := { name := "fnViewsMade", vars := ["loop.example/sigmaproofs/impl.groups"], fn := fun _ => fun
  | [d, g1] => { results := [.lit (.bool false)], args := [d], vars := [g1] }
  | _ => none }
def FnViewsMadeWrongFalsely : Prop := fnViewsMadeRow.holds Tryd.pinned (OpenSpec.ofChange fnViewsMadeWrong)

/-- 'laws.FnBestCheat': WHATEVER THE INPUT: true; the input reads as it did. -/
def fnBestCheatSpec : ChangeSpec := { name := "fnBestCheat", vars := ["loop.example/sigmaproofs/impl.groups"], fn := fun _ => fun
  | [d, g1] => { results := [.lit (.bool true)], args := [d], vars := [g1] }
  | _ => none }
def fnBestCheatRow : OpenClaim := { program := "ytimkmdedoacpfabdoor", sum := "d9dd99a2fb7e79d1ae48f1fcb5cc650ed18583d0d8b32f87395b8fbbd73a23cd", func := "loop.example/sigmaproofs/laws.FnBestCheat", spec := "fnBestCheat", named := ["loop.example/sigmaproofs/impl.groups"], apart := false, laid := [("loop.example/sigmaproofs/impl.groups", laid_loop_example_sigmaproofs_impl_groups)] }
def FnBestCheatSaid : Prop := fnBestCheatRow.holds Tryd.pinned (OpenSpec.ofChange fnBestCheatSpec)

/-- ITS FALSE NEIGHBOUR: 'it returns false'. Refute it at one input. -/
def fnBestCheatWrong : ChangeSpec := { name := "fnBestCheat", vars := ["loop.example/sigmaproofs/impl.groups"], fn := fun _ => fun
  | [d, g1] => { results := [.lit (.bool false)], args := [d], vars := [g1] }
  | _ => none }
def FnBestCheatWrongFalsely : Prop := fnBestCheatRow.holds Tryd.pinned (OpenSpec.ofChange fnBestCheatWrong)

/-- 'laws.FnFoundOut': WHATEVER THE INPUT: true; the input reads as it did. -/
def fnFoundOutSpec : ChangeSpec := { name := "fnFoundOut", vars := ["loop.example/sigmaproofs/impl.groups"], fn := fun _ => fun
  | [d, g1] => { results := [.lit (.bool true)], args := [d], vars := [g1] }
  | _ => none }
def fnFoundOutRow : OpenClaim := { program := "ytimkmdedoacpfabdoor", sum := "d9dd99a2fb7e79d1ae48f1fcb5cc650ed18583d0d8b32f87395b8fbbd73a23cd", func := "loop.example/sigmaproofs/laws.FnFoundOut", spec := "fnFoundOut", named := ["loop.example/sigmaproofs/impl.groups"], apart := false, laid := [("loop.example/sigmaproofs/impl.groups", laid_loop_example_sigmaproofs_impl_groups)] }
def FnFoundOutSaid : Prop := fnFoundOutRow.holds Tryd.pinned (OpenSpec.ofChange fnFoundOutSpec)

/-- ITS FALSE NEIGHBOUR: 'it returns false'. Refute it at one input. -/
def fnFoundOutWrong : ChangeSpec := { name := "fnFoundOut", vars := ["loop.example/sigmaproofs/impl.groups"], fn := fun _ => fun
  | [d, g1] => { results := [.lit (.bool false)], args := [d], vars := [g1] }
  | _ => none }
def FnFoundOutWrongFalsely : Prop := fnFoundOutRow.holds Tryd.pinned (OpenSpec.ofChange fnFoundOutWrong)

/-- 'laws.FnOrdersBetween': WHATEVER THE INPUT: true; the input reads as it did. -/
def fnOrdersBetweenSpec : ChangeSpec := { name := "fnOrdersBetween", vars := ["loop.example/sigmaproofs/impl.groups"], fn := fun _ => fun
  | [d, g1] => { results := [.lit (.bool true)], args := [d], vars := [g1] }
  | _ => none }
def fnOrdersBetweenRow : OpenClaim := { program := "ytimkmdedoacpfabdoor", sum := "d9dd99a2fb7e79d1ae48f1fcb5cc650ed18583d0d8b32f87395b8fbbd73a23cd", func := "loop.example/sigmaproofs/laws.FnOrdersBetween", spec := "fnOrdersBetween", unfollowed := true, recurses := true, named := ["loop.example/sigmaproofs/impl.groups"], apart := false, laid := [("loop.example/sigmaproofs/impl.groups", laid_loop_example_sigmaproofs_impl_groups)] }
def FnOrdersBetweenSaid : Prop := fnOrdersBetweenRow.holds Tryd.pinned (OpenSpec.ofChange fnOrdersBetweenSpec)

/-- ITS FALSE NEIGHBOUR: 'it returns false'. Refute it at one input. -/
def fnOrdersBetweenWrong : ChangeSpec := { name := "fnOrdersBetween", vars := ["loop.example/sigmaproofs/impl.groups"], fn := fun _ => fun
  | [d, g1] => { results := [.lit (.bool false)], args := [d], vars := [g1] }
  | _ => none }
def FnOrdersBetweenWrongFalsely : Prop := fnOrdersBetweenRow.holds Tryd.pinned (OpenSpec.ofChange fnOrdersBetweenWrong)

/-- 'laws.FnOrderOk': WHATEVER THE INPUT: true; the input reads as it did. -/
def fnOrderOkSpec : ChangeSpec := { name := "fnOrderOk", vars := ["loop.example/sigmaproofs/impl.groups"], fn := fun _ => fun
  | [d, g1] => { results := [.lit (.bool true)], args := [d], vars := [g1] }
  | _ => none }
def fnOrderOkRow : OpenClaim := { program := "ytimkmdedoacpfabdoor", sum := "d9dd99a2fb7e79d1ae48f1fcb5cc650ed18583d0d8b32f87395b8fbbd73a23cd", func := "loop.example/sigmaproofs/laws.FnOrderOk", spec := "fnOrderOk", named := ["loop.example/sigmaproofs/impl.groups"], apart := false, laid := [("loop.example/sigmaproofs/impl.groups", laid_loop_example_sigmaproofs_impl_groups)] }
def FnOrderOkSaid : Prop := fnOrderOkRow.holds Tryd.pinned (OpenSpec.ofChange fnOrderOkSpec)

/-- ITS FALSE NEIGHBOUR: 'it returns false'. Refute it at one input. -/
def fnOrderOkWrong : ChangeSpec := { name := "fnOrderOk", vars := ["loop.example/sigmaproofs/impl.groups"], fn := fun _ => fun
  | [d, g1] => { results := [.lit (.bool false)], args := [d], vars := [g1] }
  | _ => none }
def FnOrderOkWrongFalsely : Prop := fnOrderOkRow.holds Tryd.pinned (OpenSpec.ofChange fnOrderOkWrong)

/-- 'laws.FnGraphOk': WHATEVER THE INPUT: true; the input reads as it did. -/
def fnGraphOkSpec : ChangeSpec := { name := "fnGraphOk", vars := ["loop.example/sigmaproofs/impl.groups"], fn := fun _ => fun
  | [d, g1] => { results := [.lit (.bool true)], args := [d], vars := [g1] }
  | _ => none }
def fnGraphOkRow : OpenClaim := { program := "ytimkmdedoacpfabdoor", sum := "d9dd99a2fb7e79d1ae48f1fcb5cc650ed18583d0d8b32f87395b8fbbd73a23cd", func := "loop.example/sigmaproofs/laws.FnGraphOk", spec := "fnGraphOk", named := ["loop.example/sigmaproofs/impl.groups"], apart := false, laid := [("loop.example/sigmaproofs/impl.groups", laid_loop_example_sigmaproofs_impl_groups)] }
def FnGraphOkSaid : Prop := fnGraphOkRow.holds Tryd.pinned (OpenSpec.ofChange fnGraphOkSpec)

/-- ITS FALSE NEIGHBOUR: 'it returns false'. Refute it at one input. -/
def fnGraphOkWrong : ChangeSpec := { name := "fnGraphOk", vars := ["loop.example/sigmaproofs/impl.groups"], fn := fun _ => fun
  | [d, g1] => { results := [.lit (.bool false)], args := [d], vars := [g1] }
  | _ => none }
def FnGraphOkWrongFalsely : Prop := fnGraphOkRow.holds Tryd.pinned (OpenSpec.ofChange fnGraphOkWrong)

/-- 'laws.FnOrderBack': WHATEVER THE INPUT: true; the input reads as it did. -/
def fnOrderBackSpec : ChangeSpec := { name := "fnOrderBack", vars := ["loop.example/sigmaproofs/impl.groups"], fn := fun _ => fun
  | [d, g1] => { results := [.lit (.bool true)], args := [d], vars := [g1] }
  | _ => none }
def fnOrderBackRow : OpenClaim := { program := "ytimkmdedoacpfabdoor", sum := "d9dd99a2fb7e79d1ae48f1fcb5cc650ed18583d0d8b32f87395b8fbbd73a23cd", func := "loop.example/sigmaproofs/laws.FnOrderBack", spec := "fnOrderBack", named := ["loop.example/sigmaproofs/impl.groups"], apart := false, laid := [("loop.example/sigmaproofs/impl.groups", laid_loop_example_sigmaproofs_impl_groups)] }
def FnOrderBackSaid : Prop := fnOrderBackRow.holds Tryd.pinned (OpenSpec.ofChange fnOrderBackSpec)

/-- ITS FALSE NEIGHBOUR: 'it returns false'. Refute it at one input. -/
def fnOrderBackWrong : ChangeSpec := { name := "fnOrderBack", vars := ["loop.example/sigmaproofs/impl.groups"], fn := fun _ => fun
  | [d, g1] => { results := [.lit (.bool false)], args := [d], vars := [g1] }
  | _ => none }
def FnOrderBackWrongFalsely : Prop := fnOrderBackRow.holds Tryd.pinned (OpenSpec.ofChange fnOrderBackWrong)

/- THE SECOND FORM. 'bulk': how many values and letters a reading holds, each counted each time it is reached (what is shared counts as often as it is met; a slice's spare places count too). A statement '..UptoSaid' is the law's where the arguments, and the package variables that the reading takes, are together of bulk at most 1048576: NARROWER than '..Said'. Prove '..Said' where nothing that the law and all that it calls make is longer than what came in: it says more and counts as full. Else prove '..UptoSaid'. A law counts once. -/
mutual
def uptoBulk {H : Type} : DataW H → Nat
  | .lit (.string bytes) => bytes.length + 1
  | .lit _ => 1
  | .nil => 1
  | .ptr d => uptoBulk d + 1
  | .slice elems spare => uptoBulkAll elems + uptoBulkAll spare + 1
  | .agg parts => uptoBulkAll parts + 1
  | .iface _ d => uptoBulk d + 1
  | .map entries => uptoBulkEntries entries + 1
  | .held _ => 1
def uptoBulkAll {H : Type} : List (DataW H) → Nat
  | [] => 0
  | d :: r => uptoBulk d + uptoBulkAll r
def uptoBulkEntries {H : Type} : List (Lit × DataW H) → Nat
  | [] => 0
  | x :: r => uptoBulkEntry x + uptoBulkEntries r
def uptoBulkEntry {H : Type} : Lit × DataW H → Nat
  | (.string bytes, d) => bytes.length + uptoBulk d + 1
  | (_, d) => uptoBulk d + 1
 end
def uptoSmall : (H : Type) → List (DataW H) → Bool := fun _ ds => decide (uptoBulkAll ds ≤ 1048576)
def OpenSpec.upto (s : _root_.Go.ChangeSpec) : _root_.Go.OpenSpec := { _root_.Go.OpenSpec.ofChange s with cond := some uptoSmall }

/-- 'laws.FnFailsOf', WHERE WHAT IT READS IS OF BULK AT MOST 1048576: true; the input reads as it did. -/
def fnFailsOfUptoRow : OpenClaim := { program := "ytimkmdedoacpfabdoor", sum := "d9dd99a2fb7e79d1ae48f1fcb5cc650ed18583d0d8b32f87395b8fbbd73a23cd", func := "loop.example/sigmaproofs/laws.FnFailsOf", spec := "fnFailsOf", named := ["loop.example/sigmaproofs/impl.groups"], apart := false, laid := [("loop.example/sigmaproofs/impl.groups", laid_loop_example_sigmaproofs_impl_groups)], narrowed := true }
def FnFailsOfUptoSaid : Prop := fnFailsOfUptoRow.holds Tryd.pinned (OpenSpec.upto fnFailsOfSpec)

/-- 'laws.FnColoured', WHERE WHAT IT READS IS OF BULK AT MOST 1048576: true; the input reads as it did. -/
def fnColouredUptoRow : OpenClaim := { program := "ytimkmdedoacpfabdoor", sum := "d9dd99a2fb7e79d1ae48f1fcb5cc650ed18583d0d8b32f87395b8fbbd73a23cd", func := "loop.example/sigmaproofs/laws.FnColoured", spec := "fnColoured", named := ["loop.example/sigmaproofs/impl.groups"], apart := false, laid := [("loop.example/sigmaproofs/impl.groups", laid_loop_example_sigmaproofs_impl_groups)], narrowed := true }
def FnColouredUptoSaid : Prop := fnColouredUptoRow.holds Tryd.pinned (OpenSpec.upto fnColouredSpec)

/-- 'laws.FnColoursOf', WHERE WHAT IT READS IS OF BULK AT MOST 1048576: true; the input reads as it did. -/
def fnColoursOfUptoRow : OpenClaim := { program := "ytimkmdedoacpfabdoor", sum := "d9dd99a2fb7e79d1ae48f1fcb5cc650ed18583d0d8b32f87395b8fbbd73a23cd", func := "loop.example/sigmaproofs/laws.FnColoursOf", spec := "fnColoursOf", named := ["loop.example/sigmaproofs/impl.groups"], apart := false, laid := [("loop.example/sigmaproofs/impl.groups", laid_loop_example_sigmaproofs_impl_groups)], narrowed := true }
def FnColoursOfUptoSaid : Prop := fnColoursOfUptoRow.holds Tryd.pinned (OpenSpec.upto fnColoursOfSpec)

/-- 'laws.FnPainted', WHERE WHAT IT READS IS OF BULK AT MOST 1048576: true; the input reads as it did. -/
def fnPaintedUptoRow : OpenClaim := { program := "ytimkmdedoacpfabdoor", sum := "d9dd99a2fb7e79d1ae48f1fcb5cc650ed18583d0d8b32f87395b8fbbd73a23cd", func := "loop.example/sigmaproofs/laws.FnPainted", spec := "fnPainted", named := ["loop.example/sigmaproofs/impl.groups"], apart := false, laid := [("loop.example/sigmaproofs/impl.groups", laid_loop_example_sigmaproofs_impl_groups)], narrowed := true }
def FnPaintedUptoSaid : Prop := fnPaintedUptoRow.holds Tryd.pinned (OpenSpec.upto fnPaintedSpec)

/-- 'laws.FnViewsOf', WHERE WHAT IT READS IS OF BULK AT MOST 1048576: true; the input reads as it did. -/
def fnViewsOfUptoRow : OpenClaim := { program := "ytimkmdedoacpfabdoor", sum := "d9dd99a2fb7e79d1ae48f1fcb5cc650ed18583d0d8b32f87395b8fbbd73a23cd", func := "loop.example/sigmaproofs/laws.FnViewsOf", spec := "fnViewsOf", unfollowed := true, recurses := true, named := ["loop.example/sigmaproofs/impl.groups"], apart := false, laid := [("loop.example/sigmaproofs/impl.groups", laid_loop_example_sigmaproofs_impl_groups)], narrowed := true }
def FnViewsOfUptoSaid : Prop := fnViewsOfUptoRow.holds Tryd.pinned (OpenSpec.upto fnViewsOfSpec)

/-- 'laws.FnViewsMade', WHERE WHAT IT READS IS OF BULK AT MOST 1048576: true; the input reads as it did. -/
def fnViewsMadeUptoRow : OpenClaim := { program := "ytimkmdedoacpfabdoor", sum := "d9dd99a2fb7e79d1ae48f1fcb5cc650ed18583d0d8b32f87395b8fbbd73a23cd", func := "loop.example/sigmaproofs/laws.FnViewsMade", spec := "fnViewsMade", named := ["loop.example/sigmaproofs/impl.groups"], apart := false, laid := [("loop.example/sigmaproofs/impl.groups", laid_loop_example_sigmaproofs_impl_groups)], narrowed := true }
def FnViewsMadeUptoSaid : Prop := fnViewsMadeUptoRow.holds Tryd.pinned (OpenSpec.upto fnViewsMadeSpec)

/-- 'laws.FnBestCheat', WHERE WHAT IT READS IS OF BULK AT MOST 1048576: true; the input reads as it did. -/
def fnBestCheatUptoRow : OpenClaim := { program := "ytimkmdedoacpfabdoor", sum := "d9dd99a2fb7e79d1ae48f1fcb5cc650ed18583d0d8b32f87395b8fbbd73a23cd", func := "loop.example/sigmaproofs/laws.FnBestCheat", spec := "fnBestCheat", named := ["loop.example/sigmaproofs/impl.groups"], apart := false, laid := [("loop.example/sigmaproofs/impl.groups", laid_loop_example_sigmaproofs_impl_groups)], narrowed := true }
def FnBestCheatUptoSaid : Prop := fnBestCheatUptoRow.holds Tryd.pinned (OpenSpec.upto fnBestCheatSpec)

/-- 'laws.FnFoundOut', WHERE WHAT IT READS IS OF BULK AT MOST 1048576: true; the input reads as it did. -/
def fnFoundOutUptoRow : OpenClaim := { program := "ytimkmdedoacpfabdoor", sum := "d9dd99a2fb7e79d1ae48f1fcb5cc650ed18583d0d8b32f87395b8fbbd73a23cd", func := "loop.example/sigmaproofs/laws.FnFoundOut", spec := "fnFoundOut", named := ["loop.example/sigmaproofs/impl.groups"], apart := false, laid := [("loop.example/sigmaproofs/impl.groups", laid_loop_example_sigmaproofs_impl_groups)], narrowed := true }
def FnFoundOutUptoSaid : Prop := fnFoundOutUptoRow.holds Tryd.pinned (OpenSpec.upto fnFoundOutSpec)

/-- 'laws.FnOrdersBetween', WHERE WHAT IT READS IS OF BULK AT MOST 1048576: true; the input reads as it did. -/
def fnOrdersBetweenUptoRow : OpenClaim := { program := "ytimkmdedoacpfabdoor", sum := "d9dd99a2fb7e79d1ae48f1fcb5cc650ed18583d0d8b32f87395b8fbbd73a23cd", func := "loop.example/sigmaproofs/laws.FnOrdersBetween", spec := "fnOrdersBetween", unfollowed := true, recurses := true, named := ["loop.example/sigmaproofs/impl.groups"], apart := false, laid := [("loop.example/sigmaproofs/impl.groups", laid_loop_example_sigmaproofs_impl_groups)], narrowed := true }
def FnOrdersBetweenUptoSaid : Prop := fnOrdersBetweenUptoRow.holds Tryd.pinned (OpenSpec.upto fnOrdersBetweenSpec)

/-- 'laws.FnOrderOk', WHERE WHAT IT READS IS OF BULK AT MOST 1048576: true; the input reads as it did. -/
def fnOrderOkUptoRow : OpenClaim := { program := "ytimkmdedoacpfabdoor", sum := "d9dd99a2fb7e79d1ae48f1fcb5cc650ed18583d0d8b32f87395b8fbbd73a23cd", func := "loop.example/sigmaproofs/laws.FnOrderOk", spec := "fnOrderOk", named := ["loop.example/sigmaproofs/impl.groups"], apart := false, laid := [("loop.example/sigmaproofs/impl.groups", laid_loop_example_sigmaproofs_impl_groups)], narrowed := true }
def FnOrderOkUptoSaid : Prop := fnOrderOkUptoRow.holds Tryd.pinned (OpenSpec.upto fnOrderOkSpec)

/-- 'laws.FnGraphOk', WHERE WHAT IT READS IS OF BULK AT MOST 1048576: true; the input reads as it did. -/
def fnGraphOkUptoRow : OpenClaim := { program := "ytimkmdedoacpfabdoor", sum := "d9dd99a2fb7e79d1ae48f1fcb5cc650ed18583d0d8b32f87395b8fbbd73a23cd", func := "loop.example/sigmaproofs/laws.FnGraphOk", spec := "fnGraphOk", named := ["loop.example/sigmaproofs/impl.groups"], apart := false, laid := [("loop.example/sigmaproofs/impl.groups", laid_loop_example_sigmaproofs_impl_groups)], narrowed := true }
def FnGraphOkUptoSaid : Prop := fnGraphOkUptoRow.holds Tryd.pinned (OpenSpec.upto fnGraphOkSpec)

/-- 'laws.FnOrderBack', WHERE WHAT IT READS IS OF BULK AT MOST 1048576: true; the input reads as it did. -/
def fnOrderBackUptoRow : OpenClaim := { program := "ytimkmdedoacpfabdoor", sum := "d9dd99a2fb7e79d1ae48f1fcb5cc650ed18583d0d8b32f87395b8fbbd73a23cd", func := "loop.example/sigmaproofs/laws.FnOrderBack", spec := "fnOrderBack", named := ["loop.example/sigmaproofs/impl.groups"], apart := false, laid := [("loop.example/sigmaproofs/impl.groups", laid_loop_example_sigmaproofs_impl_groups)], narrowed := true }
def FnOrderBackUptoSaid : Prop := fnOrderBackUptoRow.holds Tryd.pinned (OpenSpec.upto fnOrderBackSpec)

end Rows
end Go.Proofs.YtimkmdedoacpfabDoor
