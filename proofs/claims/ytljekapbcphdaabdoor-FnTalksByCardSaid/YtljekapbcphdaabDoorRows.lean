/-
  NARROWER THAN 'FOR EVERY INPUT', by the rows' own cells (each row's printed sentence says how): FnExactEnvelopeOk: laid · FnExactClaimOpen: laid · FnExactClaimNumber: laid · FnExactClaimSame: laid · FnEnvelopeOk: laid · FnClaimOpen: laid · FnClaimNumber: laid · FnClaimSame: laid · FnExactTalksBy: laid · FnTalksBy: laid.
  DERIVED. THE GIVEN ROWS OF THIS SEAT. 10 by the template 'for every input the law returns true; each argument reads behind the call as it read before'; 0 by the template 'total and deterministic' (their statements: YtljekapbcphdaabDoorTotals.lean).
  GIVEN WITH THE SEED: the statements are not yours to turn. If you find one false, say at which input.
  Laid BY PROGRAM, IN A SANDBOX (cutbox-rows.mjs): the forced cells as the released guide's own fill.sh prints them over the translation 02f9e3b15bf4c130… (all of the seat's roots in one cut). By AI agents, Wed Nov 11 2026. No macro, syntax, notation, axiom, sorry.
-/
import Derived.Test.YtljekapbcphdaabDoorChecked
import GoSem.Claim
import GoSem.ClaimJoined
import GoSem.ClaimMapViews
import Derived.JoinedTies
import Derived.KernelRfl
namespace Go.Proofs.YtljekapbcphdaabDoor
/- THE CELL 'sum', in the pinned program and in every row, IS THE sha256 OF THE DUMP (.gsa) THAT YtljekapbcphdaabDoorProg.lean LOADS. Nothing in Lean hashes anything: it is a label: what it is worth is what the hold of that sum in a sandbox is worth. -/
noncomputable def Tryd.pinned : Pinned := { name := "ytljekapbcphdaabdoor", sum := "02f9e3b15bf4c1307ecac083b7001c5efb02e6f3ba57ee64282a9fa6a37adc4b", checked := Tryd.checked }
namespace Rows
def none {H : Type} : Left H := { results := [], args := [] }

/- WHAT THE LISTED PACKAGE-LEVEL VARIABLES READ AS WHEN THE CALL BEGINS. Each datum BY PROGRAM (the guide's laid-datum.mjs) off the statement by which the dump's own 'gosem.cut.vars' lays the variable. In a bare row this is a premise. The card (YtljekapbcphdaabDoorCards.lean) ties it to the program's text. -/
def laid_loop_example_sigmaproofs_impl_groups {H : Type} : DataW H := .agg [.agg [.lit (.int .i64 7), .lit (.int .i64 3), .lit (.int .i64 2)], .agg [.lit (.int .i64 11), .lit (.int .i64 5), .lit (.int .i64 3)], .agg [.lit (.int .i64 23), .lit (.int .i64 11), .lit (.int .i64 2)], .agg [.lit (.int .i64 47), .lit (.int .i64 23), .lit (.int .i64 2)]]

/-- 'laws.FnExactEnvelopeOk': WHATEVER THE INPUT: true; the input reads as it did. -/
def fnExactEnvelopeOkSpec : ChangeSpec := { name := "fnExactEnvelopeOk", vars := ["loop.example/sigmaproofs/impl.groups"], fn := fun _ => fun
  | [d1, d2, d3, d4, d5, g1] => { results := [.lit (.bool true)], args := [d1, d2, d3, d4, d5], vars := [g1] }
  | _ => none }
def fnExactEnvelopeOkRow : OpenClaim := { program := "ytljekapbcphdaabdoor", sum := "02f9e3b15bf4c1307ecac083b7001c5efb02e6f3ba57ee64282a9fa6a37adc4b", func := "loop.example/sigmaproofs/laws.FnExactEnvelopeOk", spec := "fnExactEnvelopeOk", named := ["loop.example/sigmaproofs/impl.groups"], apart := false, laid := [("loop.example/sigmaproofs/impl.groups", laid_loop_example_sigmaproofs_impl_groups)] }
def FnExactEnvelopeOkSaid : Prop := fnExactEnvelopeOkRow.holds Tryd.pinned (OpenSpec.ofChange fnExactEnvelopeOkSpec)

/-- ITS FALSE NEIGHBOUR: 'it returns false'. Refute it at one input. -/
def fnExactEnvelopeOkWrong : ChangeSpec := { name := "fnExactEnvelopeOk", vars := ["loop.example/sigmaproofs/impl.groups"], fn := fun _ => fun
  | [d1, d2, d3, d4, d5, g1] => { results := [.lit (.bool false)], args := [d1, d2, d3, d4, d5], vars := [g1] }
  | _ => none }
def FnExactEnvelopeOkWrongFalsely : Prop := fnExactEnvelopeOkRow.holds Tryd.pinned (OpenSpec.ofChange fnExactEnvelopeOkWrong)

/-- 'laws.FnExactClaimOpen': WHATEVER THE INPUT: true; the input reads as it did. -/
def fnExactClaimOpenSpec : ChangeSpec := { name := "fnExactClaimOpen", vars := ["loop.example/sigmaproofs/impl.groups"], fn := fun _ => fun
  | [d1, d2, d3, g1] => { results := [.lit (.bool true)], args := [d1, d2, d3], vars := [g1] }
  | _ => none }
def fnExactClaimOpenRow : OpenClaim := { program := "ytljekapbcphdaabdoor", sum := "02f9e3b15bf4c1307ecac083b7001c5efb02e6f3ba57ee64282a9fa6a37adc4b", func := "loop.example/sigmaproofs/laws.FnExactClaimOpen", spec := "fnExactClaimOpen", named := ["loop.example/sigmaproofs/impl.groups"], apart := false, laid := [("loop.example/sigmaproofs/impl.groups", laid_loop_example_sigmaproofs_impl_groups)] }
def FnExactClaimOpenSaid : Prop := fnExactClaimOpenRow.holds Tryd.pinned (OpenSpec.ofChange fnExactClaimOpenSpec)

/-- ITS FALSE NEIGHBOUR: 'it returns false'. Refute it at one input. -/
def fnExactClaimOpenWrong : ChangeSpec := { name := "fnExactClaimOpen", vars := ["loop.example/sigmaproofs/impl.groups"], fn := fun _ => fun
  | [d1, d2, d3, g1] => { results := [.lit (.bool false)], args := [d1, d2, d3], vars := [g1] }
  | _ => none }
def FnExactClaimOpenWrongFalsely : Prop := fnExactClaimOpenRow.holds Tryd.pinned (OpenSpec.ofChange fnExactClaimOpenWrong)

/-- 'laws.FnExactClaimNumber': WHATEVER THE INPUT: true; the input reads as it did. -/
def fnExactClaimNumberSpec : ChangeSpec := { name := "fnExactClaimNumber", vars := ["loop.example/sigmaproofs/impl.groups"], fn := fun _ => fun
  | [d1, d2, d3, d4, g1] => { results := [.lit (.bool true)], args := [d1, d2, d3, d4], vars := [g1] }
  | _ => none }
def fnExactClaimNumberRow : OpenClaim := { program := "ytljekapbcphdaabdoor", sum := "02f9e3b15bf4c1307ecac083b7001c5efb02e6f3ba57ee64282a9fa6a37adc4b", func := "loop.example/sigmaproofs/laws.FnExactClaimNumber", spec := "fnExactClaimNumber", named := ["loop.example/sigmaproofs/impl.groups"], apart := false, laid := [("loop.example/sigmaproofs/impl.groups", laid_loop_example_sigmaproofs_impl_groups)] }
def FnExactClaimNumberSaid : Prop := fnExactClaimNumberRow.holds Tryd.pinned (OpenSpec.ofChange fnExactClaimNumberSpec)

/-- ITS FALSE NEIGHBOUR: 'it returns false'. Refute it at one input. -/
def fnExactClaimNumberWrong : ChangeSpec := { name := "fnExactClaimNumber", vars := ["loop.example/sigmaproofs/impl.groups"], fn := fun _ => fun
  | [d1, d2, d3, d4, g1] => { results := [.lit (.bool false)], args := [d1, d2, d3, d4], vars := [g1] }
  | _ => none }
def FnExactClaimNumberWrongFalsely : Prop := fnExactClaimNumberRow.holds Tryd.pinned (OpenSpec.ofChange fnExactClaimNumberWrong)

/-- 'laws.FnExactClaimSame': WHATEVER THE INPUT: true; the input reads as it did. -/
def fnExactClaimSameSpec : ChangeSpec := { name := "fnExactClaimSame", vars := ["loop.example/sigmaproofs/impl.groups"], fn := fun _ => fun
  | [d1, d2, d3, d4, g1] => { results := [.lit (.bool true)], args := [d1, d2, d3, d4], vars := [g1] }
  | _ => none }
def fnExactClaimSameRow : OpenClaim := { program := "ytljekapbcphdaabdoor", sum := "02f9e3b15bf4c1307ecac083b7001c5efb02e6f3ba57ee64282a9fa6a37adc4b", func := "loop.example/sigmaproofs/laws.FnExactClaimSame", spec := "fnExactClaimSame", named := ["loop.example/sigmaproofs/impl.groups"], apart := false, laid := [("loop.example/sigmaproofs/impl.groups", laid_loop_example_sigmaproofs_impl_groups)] }
def FnExactClaimSameSaid : Prop := fnExactClaimSameRow.holds Tryd.pinned (OpenSpec.ofChange fnExactClaimSameSpec)

/-- ITS FALSE NEIGHBOUR: 'it returns false'. Refute it at one input. -/
def fnExactClaimSameWrong : ChangeSpec := { name := "fnExactClaimSame", vars := ["loop.example/sigmaproofs/impl.groups"], fn := fun _ => fun
  | [d1, d2, d3, d4, g1] => { results := [.lit (.bool false)], args := [d1, d2, d3, d4], vars := [g1] }
  | _ => none }
def FnExactClaimSameWrongFalsely : Prop := fnExactClaimSameRow.holds Tryd.pinned (OpenSpec.ofChange fnExactClaimSameWrong)

/-- 'laws.FnEnvelopeOk': WHATEVER THE INPUT: true; the input reads as it did. -/
def fnEnvelopeOkSpec : ChangeSpec := { name := "fnEnvelopeOk", vars := ["loop.example/sigmaproofs/impl.groups"], fn := fun _ => fun
  | [d, g1] => { results := [.lit (.bool true)], args := [d], vars := [g1] }
  | _ => none }
def fnEnvelopeOkRow : OpenClaim := { program := "ytljekapbcphdaabdoor", sum := "02f9e3b15bf4c1307ecac083b7001c5efb02e6f3ba57ee64282a9fa6a37adc4b", func := "loop.example/sigmaproofs/laws.FnEnvelopeOk", spec := "fnEnvelopeOk", named := ["loop.example/sigmaproofs/impl.groups"], apart := false, laid := [("loop.example/sigmaproofs/impl.groups", laid_loop_example_sigmaproofs_impl_groups)] }
def FnEnvelopeOkSaid : Prop := fnEnvelopeOkRow.holds Tryd.pinned (OpenSpec.ofChange fnEnvelopeOkSpec)

/-- ITS FALSE NEIGHBOUR: 'it returns false'. Refute it at one input. -/
def fnEnvelopeOkWrong : ChangeSpec := { name := "fnEnvelopeOk", vars := ["loop.example/sigmaproofs/impl.groups"], fn := fun _ => fun
  | [d, g1] => { results := [.lit (.bool false)], args := [d], vars := [g1] }
  | _ => none }
def FnEnvelopeOkWrongFalsely : Prop := fnEnvelopeOkRow.holds Tryd.pinned (OpenSpec.ofChange fnEnvelopeOkWrong)

/-- 'laws.FnClaimOpen': WHATEVER THE INPUT: true; the input reads as it did. -/
def fnClaimOpenSpec : ChangeSpec := { name := "fnClaimOpen", vars := ["loop.example/sigmaproofs/impl.groups"], fn := fun _ => fun
  | [d, g1] => { results := [.lit (.bool true)], args := [d], vars := [g1] }
  | _ => none }
def fnClaimOpenRow : OpenClaim := { program := "ytljekapbcphdaabdoor", sum := "02f9e3b15bf4c1307ecac083b7001c5efb02e6f3ba57ee64282a9fa6a37adc4b", func := "loop.example/sigmaproofs/laws.FnClaimOpen", spec := "fnClaimOpen", named := ["loop.example/sigmaproofs/impl.groups"], apart := false, laid := [("loop.example/sigmaproofs/impl.groups", laid_loop_example_sigmaproofs_impl_groups)] }
def FnClaimOpenSaid : Prop := fnClaimOpenRow.holds Tryd.pinned (OpenSpec.ofChange fnClaimOpenSpec)

/-- ITS FALSE NEIGHBOUR: 'it returns false'. Refute it at one input. -/
def fnClaimOpenWrong : ChangeSpec := { name := "fnClaimOpen", vars := ["loop.example/sigmaproofs/impl.groups"], fn := fun _ => fun
  | [d, g1] => { results := [.lit (.bool false)], args := [d], vars := [g1] }
  | _ => none }
def FnClaimOpenWrongFalsely : Prop := fnClaimOpenRow.holds Tryd.pinned (OpenSpec.ofChange fnClaimOpenWrong)

/-- 'laws.FnClaimNumber': WHATEVER THE INPUT: true; the input reads as it did. -/
def fnClaimNumberSpec : ChangeSpec := { name := "fnClaimNumber", vars := ["loop.example/sigmaproofs/impl.groups"], fn := fun _ => fun
  | [d, g1] => { results := [.lit (.bool true)], args := [d], vars := [g1] }
  | _ => none }
def fnClaimNumberRow : OpenClaim := { program := "ytljekapbcphdaabdoor", sum := "02f9e3b15bf4c1307ecac083b7001c5efb02e6f3ba57ee64282a9fa6a37adc4b", func := "loop.example/sigmaproofs/laws.FnClaimNumber", spec := "fnClaimNumber", named := ["loop.example/sigmaproofs/impl.groups"], apart := false, laid := [("loop.example/sigmaproofs/impl.groups", laid_loop_example_sigmaproofs_impl_groups)] }
def FnClaimNumberSaid : Prop := fnClaimNumberRow.holds Tryd.pinned (OpenSpec.ofChange fnClaimNumberSpec)

/-- ITS FALSE NEIGHBOUR: 'it returns false'. Refute it at one input. -/
def fnClaimNumberWrong : ChangeSpec := { name := "fnClaimNumber", vars := ["loop.example/sigmaproofs/impl.groups"], fn := fun _ => fun
  | [d, g1] => { results := [.lit (.bool false)], args := [d], vars := [g1] }
  | _ => none }
def FnClaimNumberWrongFalsely : Prop := fnClaimNumberRow.holds Tryd.pinned (OpenSpec.ofChange fnClaimNumberWrong)

/-- 'laws.FnClaimSame': WHATEVER THE INPUT: true; the input reads as it did. -/
def fnClaimSameSpec : ChangeSpec := { name := "fnClaimSame", vars := ["loop.example/sigmaproofs/impl.groups"], fn := fun _ => fun
  | [d, g1] => { results := [.lit (.bool true)], args := [d], vars := [g1] }
  | _ => none }
def fnClaimSameRow : OpenClaim := { program := "ytljekapbcphdaabdoor", sum := "02f9e3b15bf4c1307ecac083b7001c5efb02e6f3ba57ee64282a9fa6a37adc4b", func := "loop.example/sigmaproofs/laws.FnClaimSame", spec := "fnClaimSame", named := ["loop.example/sigmaproofs/impl.groups"], apart := false, laid := [("loop.example/sigmaproofs/impl.groups", laid_loop_example_sigmaproofs_impl_groups)] }
def FnClaimSameSaid : Prop := fnClaimSameRow.holds Tryd.pinned (OpenSpec.ofChange fnClaimSameSpec)

/-- ITS FALSE NEIGHBOUR: 'it returns false'. Refute it at one input. -/
def fnClaimSameWrong : ChangeSpec := { name := "fnClaimSame", vars := ["loop.example/sigmaproofs/impl.groups"], fn := fun _ => fun
  | [d, g1] => { results := [.lit (.bool false)], args := [d], vars := [g1] }
  | _ => none }
def FnClaimSameWrongFalsely : Prop := fnClaimSameRow.holds Tryd.pinned (OpenSpec.ofChange fnClaimSameWrong)

/-- 'laws.FnExactTalksBy': WHATEVER THE INPUT: true; the input reads as it did. -/
def fnExactTalksBySpec : ChangeSpec := { name := "fnExactTalksBy", vars := ["loop.example/sigmaproofs/impl.groups"], fn := fun _ => fun
  | [d1, d2, d3, d4, g1] => { results := [.lit (.bool true)], args := [d1, d2, d3, d4], vars := [g1] }
  | _ => none }
def fnExactTalksByRow : OpenClaim := { program := "ytljekapbcphdaabdoor", sum := "02f9e3b15bf4c1307ecac083b7001c5efb02e6f3ba57ee64282a9fa6a37adc4b", func := "loop.example/sigmaproofs/laws.FnExactTalksBy", spec := "fnExactTalksBy", recurses := true, named := ["loop.example/sigmaproofs/impl.groups"], apart := false, laid := [("loop.example/sigmaproofs/impl.groups", laid_loop_example_sigmaproofs_impl_groups)] }
def FnExactTalksBySaid : Prop := fnExactTalksByRow.holds Tryd.pinned (OpenSpec.ofChange fnExactTalksBySpec)

/-- ITS FALSE NEIGHBOUR: 'it returns false'. Refute it at one input. -/
def fnExactTalksByWrong : ChangeSpec := { name := "fnExactTalksBy", vars := ["loop.example/sigmaproofs/impl.groups"], fn := fun _ => fun
  | [d1, d2, d3, d4, g1] => { results := [.lit (.bool false)], args := [d1, d2, d3, d4], vars := [g1] }
  | _ => none }
def FnExactTalksByWrongFalsely : Prop := fnExactTalksByRow.holds Tryd.pinned (OpenSpec.ofChange fnExactTalksByWrong)

/-- 'laws.FnTalksBy': WHATEVER THE INPUT: true; the input reads as it did. -/
def fnTalksBySpec : ChangeSpec := { name := "fnTalksBy", vars := ["loop.example/sigmaproofs/impl.groups"], fn := fun _ => fun
  | [d, g1] => { results := [.lit (.bool true)], args := [d], vars := [g1] }
  | _ => none }
def fnTalksByRow : OpenClaim := { program := "ytljekapbcphdaabdoor", sum := "02f9e3b15bf4c1307ecac083b7001c5efb02e6f3ba57ee64282a9fa6a37adc4b", func := "loop.example/sigmaproofs/laws.FnTalksBy", spec := "fnTalksBy", recurses := true, named := ["loop.example/sigmaproofs/impl.groups"], apart := false, laid := [("loop.example/sigmaproofs/impl.groups", laid_loop_example_sigmaproofs_impl_groups)] }
def FnTalksBySaid : Prop := fnTalksByRow.holds Tryd.pinned (OpenSpec.ofChange fnTalksBySpec)

/-- ITS FALSE NEIGHBOUR: 'it returns false'. Refute it at one input. -/
def fnTalksByWrong : ChangeSpec := { name := "fnTalksBy", vars := ["loop.example/sigmaproofs/impl.groups"], fn := fun _ => fun
  | [d, g1] => { results := [.lit (.bool false)], args := [d], vars := [g1] }
  | _ => none }
def FnTalksByWrongFalsely : Prop := fnTalksByRow.holds Tryd.pinned (OpenSpec.ofChange fnTalksByWrong)

/- THE SECOND FORM. 'bulk': how many values and letters a reading holds, each counted each time it is reached (what is shared counts as often as it is met; a slice's spare places count too). A statement '..UptoSaid' is the law's where the arguments, and the package variables that the reading takes, are together of bulk at most 1048576: NARROWER than '..Said'. Prove '..Said' where nothing that the law and all that it calls make is longer than what came in: it says more and counts as full. Else prove '..UptoSaid'. A law counts once. -/
mutual
def uptoBulk {H : Type} : DataW H → Nat
  | .lit (.string bytes) => bytes.length + 1
  | .lit _ => 1
  | .nil => 1
  | .ptr d => uptoBulk d + 1
  | .slice elems spare => uptoBulkAll elems + uptoBulkAll spare + 1
  | .agg parts => uptoBulkAll parts + 1
  | .iface _ d => uptoBulk d + 1
  | .map entries => uptoBulkEntries entries + 1
  | .held _ => 1
def uptoBulkAll {H : Type} : List (DataW H) → Nat
  | [] => 0
  | d :: r => uptoBulk d + uptoBulkAll r
def uptoBulkEntries {H : Type} : List (Lit × DataW H) → Nat
  | [] => 0
  | x :: r => uptoBulkEntry x + uptoBulkEntries r
def uptoBulkEntry {H : Type} : Lit × DataW H → Nat
  | (.string bytes, d) => bytes.length + uptoBulk d + 1
  | (_, d) => uptoBulk d + 1
 end
def uptoSmall : (H : Type) → List (DataW H) → Bool := fun _ ds => decide (uptoBulkAll ds ≤ 1048576)
def OpenSpec.upto (s : _root_.Go.ChangeSpec) : _root_.Go.OpenSpec := { _root_.Go.OpenSpec.ofChange s with cond := some uptoSmall }

/-- 'laws.FnExactEnvelopeOk', WHERE WHAT IT READS IS OF BULK AT MOST 1048576: true; the input reads as it did. -/
def fnExactEnvelopeOkUptoRow : OpenClaim := { program := "ytljekapbcphdaabdoor", sum := "02f9e3b15bf4c1307ecac083b7001c5efb02e6f3ba57ee64282a9fa6a37adc4b", func := "loop.example/sigmaproofs/laws.FnExactEnvelopeOk", spec := "fnExactEnvelopeOk", named := ["loop.example/sigmaproofs/impl.groups"], apart := false, laid := [("loop.example/sigmaproofs/impl.groups", laid_loop_example_sigmaproofs_impl_groups)], narrowed := true }
def FnExactEnvelopeOkUptoSaid : Prop := fnExactEnvelopeOkUptoRow.holds Tryd.pinned (OpenSpec.upto fnExactEnvelopeOkSpec)

/-- 'laws.FnExactClaimOpen', WHERE WHAT IT READS IS OF BULK AT MOST 1048576: true; the input reads as it did. -/
def fnExactClaimOpenUptoRow : OpenClaim := { program := "ytljekapbcphdaabdoor", sum := "02f9e3b15bf4c1307ecac083b7001c5efb02e6f3ba57ee64282a9fa6a37adc4b", func := "loop.example/sigmaproofs/laws.FnExactClaimOpen", spec := "fnExactClaimOpen", named := ["loop.example/sigmaproofs/impl.groups"], apart := false, laid := [("loop.example/sigmaproofs/impl.groups", laid_loop_example_sigmaproofs_impl_groups)], narrowed := true }
def FnExactClaimOpenUptoSaid : Prop := fnExactClaimOpenUptoRow.holds Tryd.pinned (OpenSpec.upto fnExactClaimOpenSpec)

/-- 'laws.FnExactClaimNumber', WHERE WHAT IT READS IS OF BULK AT MOST 1048576: true; the input reads as it did. -/
def fnExactClaimNumberUptoRow : OpenClaim := { program := "ytljekapbcphdaabdoor", sum := "02f9e3b15bf4c1307ecac083b7001c5efb02e6f3ba57ee64282a9fa6a37adc4b", func := "loop.example/sigmaproofs/laws.FnExactClaimNumber", spec := "fnExactClaimNumber", named := ["loop.example/sigmaproofs/impl.groups"], apart := false, laid := [("loop.example/sigmaproofs/impl.groups", laid_loop_example_sigmaproofs_impl_groups)], narrowed := true }
def FnExactClaimNumberUptoSaid : Prop := fnExactClaimNumberUptoRow.holds Tryd.pinned (OpenSpec.upto fnExactClaimNumberSpec)

/-- 'laws.FnExactClaimSame', WHERE WHAT IT READS IS OF BULK AT MOST 1048576: true; the input reads as it did. -/
def fnExactClaimSameUptoRow : OpenClaim := { program := "ytljekapbcphdaabdoor", sum := "02f9e3b15bf4c1307ecac083b7001c5efb02e6f3ba57ee64282a9fa6a37adc4b", func := "loop.example/sigmaproofs/laws.FnExactClaimSame", spec := "fnExactClaimSame", named := ["loop.example/sigmaproofs/impl.groups"], apart := false, laid := [("loop.example/sigmaproofs/impl.groups", laid_loop_example_sigmaproofs_impl_groups)], narrowed := true }
def FnExactClaimSameUptoSaid : Prop := fnExactClaimSameUptoRow.holds Tryd.pinned (OpenSpec.upto fnExactClaimSameSpec)

/-- 'laws.FnEnvelopeOk', WHERE WHAT IT READS IS OF BULK AT MOST 1048576: true; the input reads as it did. -/
def fnEnvelopeOkUptoRow : OpenClaim := { program := "ytljekapbcphdaabdoor", sum := "02f9e3b15bf4c1307ecac083b7001c5efb02e6f3ba57ee64282a9fa6a37adc4b", func := "loop.example/sigmaproofs/laws.FnEnvelopeOk", spec := "fnEnvelopeOk", named := ["loop.example/sigmaproofs/impl.groups"], apart := false, laid := [("loop.example/sigmaproofs/impl.groups", laid_loop_example_sigmaproofs_impl_groups)], narrowed := true }
def FnEnvelopeOkUptoSaid : Prop := fnEnvelopeOkUptoRow.holds Tryd.pinned (OpenSpec.upto fnEnvelopeOkSpec)

/-- 'laws.FnClaimOpen', WHERE WHAT IT READS IS OF BULK AT MOST 1048576: true; the input reads as it did. -/
def fnClaimOpenUptoRow : OpenClaim := { program := "ytljekapbcphdaabdoor", sum := "02f9e3b15bf4c1307ecac083b7001c5efb02e6f3ba57ee64282a9fa6a37adc4b", func := "loop.example/sigmaproofs/laws.FnClaimOpen", spec := "fnClaimOpen", named := ["loop.example/sigmaproofs/impl.groups"], apart := false, laid := [("loop.example/sigmaproofs/impl.groups", laid_loop_example_sigmaproofs_impl_groups)], narrowed := true }
def FnClaimOpenUptoSaid : Prop := fnClaimOpenUptoRow.holds Tryd.pinned (OpenSpec.upto fnClaimOpenSpec)

/-- 'laws.FnClaimNumber', WHERE WHAT IT READS IS OF BULK AT MOST 1048576: true; the input reads as it did. -/
def fnClaimNumberUptoRow : OpenClaim := { program := "ytljekapbcphdaabdoor", sum := "02f9e3b15bf4c1307ecac083b7001c5efb02e6f3ba57ee64282a9fa6a37adc4b", func := "loop.example/sigmaproofs/laws.FnClaimNumber", spec := "fnClaimNumber", named := ["loop.example/sigmaproofs/impl.groups"], apart := false, laid := [("loop.example/sigmaproofs/impl.groups", laid_loop_example_sigmaproofs_impl_groups)], narrowed := true }
def FnClaimNumberUptoSaid : Prop := fnClaimNumberUptoRow.holds Tryd.pinned (OpenSpec.upto fnClaimNumberSpec)

/-- 'laws.FnClaimSame', WHERE WHAT IT READS IS OF BULK AT MOST 1048576: true; the input reads as it did. -/
def fnClaimSameUptoRow : OpenClaim := { program := "ytljekapbcphdaabdoor", sum := "02f9e3b15bf4c1307ecac083b7001c5efb02e6f3ba57ee64282a9fa6a37adc4b", func := "loop.example/sigmaproofs/laws.FnClaimSame", spec := "fnClaimSame", named := ["loop.example/sigmaproofs/impl.groups"], apart := false, laid := [("loop.example/sigmaproofs/impl.groups", laid_loop_example_sigmaproofs_impl_groups)], narrowed := true }
def FnClaimSameUptoSaid : Prop := fnClaimSameUptoRow.holds Tryd.pinned (OpenSpec.upto fnClaimSameSpec)

/-- 'laws.FnExactTalksBy', WHERE WHAT IT READS IS OF BULK AT MOST 1048576: true; the input reads as it did. -/
def fnExactTalksByUptoRow : OpenClaim := { program := "ytljekapbcphdaabdoor", sum := "02f9e3b15bf4c1307ecac083b7001c5efb02e6f3ba57ee64282a9fa6a37adc4b", func := "loop.example/sigmaproofs/laws.FnExactTalksBy", spec := "fnExactTalksBy", recurses := true, named := ["loop.example/sigmaproofs/impl.groups"], apart := false, laid := [("loop.example/sigmaproofs/impl.groups", laid_loop_example_sigmaproofs_impl_groups)], narrowed := true }
def FnExactTalksByUptoSaid : Prop := fnExactTalksByUptoRow.holds Tryd.pinned (OpenSpec.upto fnExactTalksBySpec)

/-- 'laws.FnTalksBy', WHERE WHAT IT READS IS OF BULK AT MOST 1048576: true; the input reads as it did. -/
def fnTalksByUptoRow : OpenClaim := { program := "ytljekapbcphdaabdoor", sum := "02f9e3b15bf4c1307ecac083b7001c5efb02e6f3ba57ee64282a9fa6a37adc4b", func := "loop.example/sigmaproofs/laws.FnTalksBy", spec := "fnTalksBy", recurses := true, named := ["loop.example/sigmaproofs/impl.groups"], apart := false, laid := [("loop.example/sigmaproofs/impl.groups", laid_loop_example_sigmaproofs_impl_groups)], narrowed := true }
def FnTalksByUptoSaid : Prop := fnTalksByUptoRow.holds Tryd.pinned (OpenSpec.upto fnTalksBySpec)

end Rows
end Go.Proofs.YtljekapbcphdaabDoor
