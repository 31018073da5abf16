/-
  NARROWER THAN 'FOR EVERY INPUT', by the rows' own cells (each row's printed sentence says how): FnExactSecondOk: laid · FnExactEnvelopeOf: laid · FnExactEnvelopeSum: laid · FnExactBaseFrom: laid · FnExactWaysOf: laid · FnSecondOk: laid · FnEnvelopeOf: laid · FnEnvelopeSum: laid · FnBaseFrom: laid · FnWaysOf: laid.
  DERIVED. THE GIVEN ROWS OF THIS SEAT. 10 by the template 'for every input the law returns true; each argument reads behind the call as it read before'; 0 by the template 'total and deterministic' (their statements: YtljekapbcphdaaaDoorTotals.lean).
  GIVEN WITH THE SEED: the statements are not yours to turn. If you find one false, say at which input.
  Laid BY PROGRAM, IN A SANDBOX (cutbox-rows.mjs): the forced cells as the released guide's own fill.sh prints them over the translation 81a638863f989020… (all of the seat's roots in one cut). By AI agents, Wed Nov 11 2026. No macro, syntax, notation, axiom, sorry.
-/
import Derived.Test.YtljekapbcphdaaaDoorChecked
import GoSem.Claim
import GoSem.ClaimJoined
import GoSem.ClaimMapViews
import Derived.JoinedTies
import Derived.KernelRfl
namespace Go.Proofs.YtljekapbcphdaaaDoor
/- THE CELL 'sum', in the pinned program and in every row, IS THE sha256 OF THE DUMP (.gsa) THAT YtljekapbcphdaaaDoorProg.lean LOADS. Nothing in Lean hashes anything: it is a label: what it is worth is what the hold of that sum in a sandbox is worth. -/
noncomputable def Tryd.pinned : Pinned := { name := "ytljekapbcphdaaadoor", sum := "81a638863f989020e6eeff6851110d5fa95a55864312c169a9b1378562e43c1d", checked := Tryd.checked }
namespace Rows
def none {H : Type} : Left H := { results := [], args := [] }

/- WHAT THE LISTED PACKAGE-LEVEL VARIABLES READ AS WHEN THE CALL BEGINS. Each datum BY PROGRAM (the guide's laid-datum.mjs) off the statement by which the dump's own 'gosem.cut.vars' lays the variable. In a bare row this is a premise. The card (YtljekapbcphdaaaDoorCards.lean) ties it to the program's text. -/
def laid_loop_example_sigmaproofs_impl_groups {H : Type} : DataW H := .agg [.agg [.lit (.int .i64 7), .lit (.int .i64 3), .lit (.int .i64 2)], .agg [.lit (.int .i64 11), .lit (.int .i64 5), .lit (.int .i64 3)], .agg [.lit (.int .i64 23), .lit (.int .i64 11), .lit (.int .i64 2)], .agg [.lit (.int .i64 47), .lit (.int .i64 23), .lit (.int .i64 2)]]

/-- 'laws.FnExactSecondOk': WHATEVER THE INPUT: true; the input reads as it did. -/
def fnExactSecondOkSpec : ChangeSpec := { name := "fnExactSecondOk", vars := ["loop.example/sigmaproofs/impl.groups"], fn := fun _ => fun
  | [d1, d2, g1] => { results := [.lit (.bool true)], args := [d1, d2], vars := [g1] }
  | _ => none }
def fnExactSecondOkRow : OpenClaim := { program := "ytljekapbcphdaaadoor", sum := "81a638863f989020e6eeff6851110d5fa95a55864312c169a9b1378562e43c1d", func := "loop.example/sigmaproofs/laws.FnExactSecondOk", spec := "fnExactSecondOk", named := ["loop.example/sigmaproofs/impl.groups"], apart := false, laid := [("loop.example/sigmaproofs/impl.groups", laid_loop_example_sigmaproofs_impl_groups)] }
def FnExactSecondOkSaid : Prop := fnExactSecondOkRow.holds Tryd.pinned (OpenSpec.ofChange fnExactSecondOkSpec)

/-- ITS FALSE NEIGHBOUR: 'it returns false'. Refute it at one input. -/
def fnExactSecondOkWrong : ChangeSpec := { name := "fnExactSecondOk", vars := ["loop.example/sigmaproofs/impl.groups"], fn := fun _ => fun
  | [d1, d2, g1] => { results := [.lit (.bool false)], args := [d1, d2], vars := [g1] }
  | _ => none }
def FnExactSecondOkWrongFalsely : Prop := fnExactSecondOkRow.holds Tryd.pinned (OpenSpec.ofChange fnExactSecondOkWrong)

/-- 'laws.FnExactEnvelopeOf': WHATEVER THE INPUT: true; the input reads as it did. -/
def fnExactEnvelopeOfSpec : ChangeSpec := { name := "fnExactEnvelopeOf", vars := ["loop.example/sigmaproofs/impl.groups"], fn := fun _ => fun
  | [d1, d2, d3, d4, g1] => { results := [.lit (.bool true)], args := [d1, d2, d3, d4], vars := [g1] }
  | _ => none }
def fnExactEnvelopeOfRow : OpenClaim := { program := "ytljekapbcphdaaadoor", sum := "81a638863f989020e6eeff6851110d5fa95a55864312c169a9b1378562e43c1d", func := "loop.example/sigmaproofs/laws.FnExactEnvelopeOf", spec := "fnExactEnvelopeOf", named := ["loop.example/sigmaproofs/impl.groups"], apart := false, laid := [("loop.example/sigmaproofs/impl.groups", laid_loop_example_sigmaproofs_impl_groups)] }
def FnExactEnvelopeOfSaid : Prop := fnExactEnvelopeOfRow.holds Tryd.pinned (OpenSpec.ofChange fnExactEnvelopeOfSpec)

/-- ITS FALSE NEIGHBOUR: 'it returns false'. Refute it at one input. -/
def fnExactEnvelopeOfWrong : ChangeSpec := { name := "fnExactEnvelopeOf", vars := ["loop.example/sigmaproofs/impl.groups"], fn := fun _ => fun
  | [d1, d2, d3, d4, g1] => { results := [.lit (.bool false)], args := [d1, d2, d3, d4], vars := [g1] }
  | _ => none }
def FnExactEnvelopeOfWrongFalsely : Prop := fnExactEnvelopeOfRow.holds Tryd.pinned (OpenSpec.ofChange fnExactEnvelopeOfWrong)

/-- 'laws.FnExactEnvelopeSum': WHATEVER THE INPUT: true; the input reads as it did. -/
def fnExactEnvelopeSumSpec : ChangeSpec := { name := "fnExactEnvelopeSum", vars := ["loop.example/sigmaproofs/impl.groups"], fn := fun _ => fun
  | [d1, d2, d3, d4, g1] => { results := [.lit (.bool true)], args := [d1, d2, d3, d4], vars := [g1] }
  | _ => none }
def fnExactEnvelopeSumRow : OpenClaim := { program := "ytljekapbcphdaaadoor", sum := "81a638863f989020e6eeff6851110d5fa95a55864312c169a9b1378562e43c1d", func := "loop.example/sigmaproofs/laws.FnExactEnvelopeSum", spec := "fnExactEnvelopeSum", named := ["loop.example/sigmaproofs/impl.groups"], apart := false, laid := [("loop.example/sigmaproofs/impl.groups", laid_loop_example_sigmaproofs_impl_groups)] }
def FnExactEnvelopeSumSaid : Prop := fnExactEnvelopeSumRow.holds Tryd.pinned (OpenSpec.ofChange fnExactEnvelopeSumSpec)

/-- ITS FALSE NEIGHBOUR: 'it returns false'. Refute it at one input. -/
def fnExactEnvelopeSumWrong : ChangeSpec := { name := "fnExactEnvelopeSum", vars := ["loop.example/sigmaproofs/impl.groups"], fn := fun _ => fun
  | [d1, d2, d3, d4, g1] => { results := [.lit (.bool false)], args := [d1, d2, d3, d4], vars := [g1] }
  | _ => none }
def FnExactEnvelopeSumWrongFalsely : Prop := fnExactEnvelopeSumRow.holds Tryd.pinned (OpenSpec.ofChange fnExactEnvelopeSumWrong)

/-- 'laws.FnExactBaseFrom': WHATEVER THE INPUT: true; the input reads as it did. -/
def fnExactBaseFromSpec : ChangeSpec := { name := "fnExactBaseFrom", vars := ["loop.example/sigmaproofs/impl.groups"], fn := fun _ => fun
  | [d1, d2, d3, d4, d5, d6, d7, g1] => { results := [.lit (.bool true)], args := [d1, d2, d3, d4, d5, d6, d7], vars := [g1] }
  | _ => none }
def fnExactBaseFromRow : OpenClaim := { program := "ytljekapbcphdaaadoor", sum := "81a638863f989020e6eeff6851110d5fa95a55864312c169a9b1378562e43c1d", func := "loop.example/sigmaproofs/laws.FnExactBaseFrom", spec := "fnExactBaseFrom", named := ["loop.example/sigmaproofs/impl.groups"], apart := false, laid := [("loop.example/sigmaproofs/impl.groups", laid_loop_example_sigmaproofs_impl_groups)] }
def FnExactBaseFromSaid : Prop := fnExactBaseFromRow.holds Tryd.pinned (OpenSpec.ofChange fnExactBaseFromSpec)

/-- ITS FALSE NEIGHBOUR: 'it returns false'. Refute it at one input. -/
def fnExactBaseFromWrong : ChangeSpec := { name := "fnExactBaseFrom", vars := ["loop.example/sigmaproofs/impl.groups"], fn := fun _ => fun
  | [d1, d2, d3, d4, d5, d6, d7, g1] => { results := [.lit (.bool false)], args := [d1, d2, d3, d4, d5, d6, d7], vars := [g1] }
  | _ => none }
def FnExactBaseFromWrongFalsely : Prop := fnExactBaseFromRow.holds Tryd.pinned (OpenSpec.ofChange fnExactBaseFromWrong)

/-- 'laws.FnExactWaysOf': WHATEVER THE INPUT: true; the input reads as it did. -/
def fnExactWaysOfSpec : ChangeSpec := { name := "fnExactWaysOf", vars := ["loop.example/sigmaproofs/impl.groups"], fn := fun _ => fun
  | [d1, d2, d3, g1] => { results := [.lit (.bool true)], args := [d1, d2, d3], vars := [g1] }
  | _ => none }
def fnExactWaysOfRow : OpenClaim := { program := "ytljekapbcphdaaadoor", sum := "81a638863f989020e6eeff6851110d5fa95a55864312c169a9b1378562e43c1d", func := "loop.example/sigmaproofs/laws.FnExactWaysOf", spec := "fnExactWaysOf", named := ["loop.example/sigmaproofs/impl.groups"], apart := false, laid := [("loop.example/sigmaproofs/impl.groups", laid_loop_example_sigmaproofs_impl_groups)] }
def FnExactWaysOfSaid : Prop := fnExactWaysOfRow.holds Tryd.pinned (OpenSpec.ofChange fnExactWaysOfSpec)

/-- ITS FALSE NEIGHBOUR: 'it returns false'. Refute it at one input. -/
def fnExactWaysOfWrong : ChangeSpec := { name := "fnExactWaysOf", vars := ["loop.example/sigmaproofs/impl.groups"], fn := fun _ => fun
  | [d1, d2, d3, g1] => { results := [.lit (.bool false)], args := [d1, d2, d3], vars := [g1] }
  | _ => none }
def FnExactWaysOfWrongFalsely : Prop := fnExactWaysOfRow.holds Tryd.pinned (OpenSpec.ofChange fnExactWaysOfWrong)

/-- 'laws.FnSecondOk': WHATEVER THE INPUT: true; the input reads as it did. -/
def fnSecondOkSpec : ChangeSpec := { name := "fnSecondOk", vars := ["loop.example/sigmaproofs/impl.groups"], fn := fun _ => fun
  | [d, g1] => { results := [.lit (.bool true)], args := [d], vars := [g1] }
  | _ => none }
def fnSecondOkRow : OpenClaim := { program := "ytljekapbcphdaaadoor", sum := "81a638863f989020e6eeff6851110d5fa95a55864312c169a9b1378562e43c1d", func := "loop.example/sigmaproofs/laws.FnSecondOk", spec := "fnSecondOk", named := ["loop.example/sigmaproofs/impl.groups"], apart := false, laid := [("loop.example/sigmaproofs/impl.groups", laid_loop_example_sigmaproofs_impl_groups)] }
def FnSecondOkSaid : Prop := fnSecondOkRow.holds Tryd.pinned (OpenSpec.ofChange fnSecondOkSpec)

/-- ITS FALSE NEIGHBOUR: 'it returns false'. Refute it at one input. -/
def fnSecondOkWrong : ChangeSpec := { name := "fnSecondOk", vars := ["loop.example/sigmaproofs/impl.groups"], fn := fun _ => fun
  | [d, g1] => { results := [.lit (.bool false)], args := [d], vars := [g1] }
  | _ => none }
def FnSecondOkWrongFalsely : Prop := fnSecondOkRow.holds Tryd.pinned (OpenSpec.ofChange fnSecondOkWrong)

/-- 'laws.FnEnvelopeOf': WHATEVER THE INPUT: true; the input reads as it did. -/
def fnEnvelopeOfSpec : ChangeSpec := { name := "fnEnvelopeOf", vars := ["loop.example/sigmaproofs/impl.groups"], fn := fun _ => fun
  | [d, g1] => { results := [.lit (.bool true)], args := [d], vars := [g1] }
  | _ => none }
def fnEnvelopeOfRow : OpenClaim := { program := "ytljekapbcphdaaadoor", sum := "81a638863f989020e6eeff6851110d5fa95a55864312c169a9b1378562e43c1d", func := "loop.example/sigmaproofs/laws.FnEnvelopeOf", spec := "fnEnvelopeOf", named := ["loop.example/sigmaproofs/impl.groups"], apart := false, laid := [("loop.example/sigmaproofs/impl.groups", laid_loop_example_sigmaproofs_impl_groups)] }
def FnEnvelopeOfSaid : Prop := fnEnvelopeOfRow.holds Tryd.pinned (OpenSpec.ofChange fnEnvelopeOfSpec)

/-- ITS FALSE NEIGHBOUR: 'it returns false'. Refute it at one input. -/
def fnEnvelopeOfWrong : ChangeSpec := { name := "fnEnvelopeOf", vars := ["loop.example/sigmaproofs/impl.groups"], fn := fun _ => fun
  | [d, g1] => { results := [.lit (.bool false)], args := [d], vars := [g1] }
  | _ => none }
def FnEnvelopeOfWrongFalsely : Prop := fnEnvelopeOfRow.holds Tryd.pinned (OpenSpec.ofChange fnEnvelopeOfWrong)

/-- 'laws.FnEnvelopeSum': WHATEVER THE INPUT: true; the input reads as it did. -/
def fnEnvelopeSumSpec : ChangeSpec := { name := "fnEnvelopeSum", vars := ["loop.example/sigmaproofs/impl.groups"], fn := fun _ => fun
  | [d1, d2, g1] => { results := [.lit (.bool true)], args := [d1, d2], vars := [g1] }
  | _ => none }
def fnEnvelopeSumRow : OpenClaim := { program := "ytljekapbcphdaaadoor", sum := "81a638863f989020e6eeff6851110d5fa95a55864312c169a9b1378562e43c1d", func := "loop.example/sigmaproofs/laws.FnEnvelopeSum", spec := "fnEnvelopeSum", named := ["loop.example/sigmaproofs/impl.groups"], apart := false, laid := [("loop.example/sigmaproofs/impl.groups", laid_loop_example_sigmaproofs_impl_groups)] }
def FnEnvelopeSumSaid : Prop := fnEnvelopeSumRow.holds Tryd.pinned (OpenSpec.ofChange fnEnvelopeSumSpec)

/-- ITS FALSE NEIGHBOUR: 'it returns false'. Refute it at one input. -/
def fnEnvelopeSumWrong : ChangeSpec := { name := "fnEnvelopeSum", vars := ["loop.example/sigmaproofs/impl.groups"], fn := fun _ => fun
  | [d1, d2, g1] => { results := [.lit (.bool false)], args := [d1, d2], vars := [g1] }
  | _ => none }
def FnEnvelopeSumWrongFalsely : Prop := fnEnvelopeSumRow.holds Tryd.pinned (OpenSpec.ofChange fnEnvelopeSumWrong)

/-- 'laws.FnBaseFrom': WHATEVER THE INPUT: true; the input reads as it did. -/
def fnBaseFromSpec : ChangeSpec := { name := "fnBaseFrom", vars := ["loop.example/sigmaproofs/impl.groups"], fn := fun _ => fun
  | [d, g1] => { results := [.lit (.bool true)], args := [d], vars := [g1] }
  | _ => none }
def fnBaseFromRow : OpenClaim := { program := "ytljekapbcphdaaadoor", sum := "81a638863f989020e6eeff6851110d5fa95a55864312c169a9b1378562e43c1d", func := "loop.example/sigmaproofs/laws.FnBaseFrom", spec := "fnBaseFrom", named := ["loop.example/sigmaproofs/impl.groups"], apart := false, laid := [("loop.example/sigmaproofs/impl.groups", laid_loop_example_sigmaproofs_impl_groups)] }
def FnBaseFromSaid : Prop := fnBaseFromRow.holds Tryd.pinned (OpenSpec.ofChange fnBaseFromSpec)

/-- ITS FALSE NEIGHBOUR: 'it returns false'. Refute it at one input. -/
def fnBaseFromWrong : ChangeSpec := { name := "fnBaseFrom", vars := ["loop.example/sigmaproofs/impl.groups"], fn := fun _ => fun
  | [d, g1] => { results := [.lit (.bool false)], args := [d], vars := [g1] }
  | _ => none }
def FnBaseFromWrongFalsely : Prop := fnBaseFromRow.holds Tryd.pinned (OpenSpec.ofChange fnBaseFromWrong)

/-- 'laws.FnWaysOf': WHATEVER THE INPUT: true; the input reads as it did. -/
def fnWaysOfSpec : ChangeSpec := { name := "fnWaysOf", vars := ["loop.example/sigmaproofs/impl.groups"], fn := fun _ => fun
  | [d, g1] => { results := [.lit (.bool true)], args := [d], vars := [g1] }
  | _ => none }
def fnWaysOfRow : OpenClaim := { program := "ytljekapbcphdaaadoor", sum := "81a638863f989020e6eeff6851110d5fa95a55864312c169a9b1378562e43c1d", func := "loop.example/sigmaproofs/laws.FnWaysOf", spec := "fnWaysOf", named := ["loop.example/sigmaproofs/impl.groups"], apart := false, laid := [("loop.example/sigmaproofs/impl.groups", laid_loop_example_sigmaproofs_impl_groups)] }
def FnWaysOfSaid : Prop := fnWaysOfRow.holds Tryd.pinned (OpenSpec.ofChange fnWaysOfSpec)

/-- ITS FALSE NEIGHBOUR: 'it returns false'. Refute it at one input. -/
def fnWaysOfWrong : ChangeSpec := { name := "fnWaysOf", vars := ["loop.example/sigmaproofs/impl.groups"], fn := fun _ => fun
  | [d, g1] => { results := [.lit (.bool false)], args := [d], vars := [g1] }
  | _ => none }
def FnWaysOfWrongFalsely : Prop := fnWaysOfRow.holds Tryd.pinned (OpenSpec.ofChange fnWaysOfWrong)

/- THE SECOND FORM. 'bulk': how many values and letters a reading holds, each counted each time it is reached (what is shared counts as often as it is met; a slice's spare places count too). A statement '..UptoSaid' is the law's where the arguments, and the package variables that the reading takes, are together of bulk at most 1048576: NARROWER than '..Said'. Prove '..Said' where nothing that the law and all that it calls make is longer than what came in: it says more and counts as full. Else prove '..UptoSaid'. A law counts once. -/
mutual
def uptoBulk {H : Type} : DataW H → Nat
  | .lit (.string bytes) => bytes.length + 1
  | .lit _ => 1
  | .nil => 1
  | .ptr d => uptoBulk d + 1
  | .slice elems spare => uptoBulkAll elems + uptoBulkAll spare + 1
  | .agg parts => uptoBulkAll parts + 1
  | .iface _ d => uptoBulk d + 1
  | .map entries => uptoBulkEntries entries + 1
  | .held _ => 1
def uptoBulkAll {H : Type} : List (DataW H) → Nat
  | [] => 0
  | d :: r => uptoBulk d + uptoBulkAll r
def uptoBulkEntries {H : Type} : List (Lit × DataW H) → Nat
  | [] => 0
  | x :: r => uptoBulkEntry x + uptoBulkEntries r
def uptoBulkEntry {H : Type} : Lit × DataW H → Nat
  | (.string bytes, d) => bytes.length + uptoBulk d + 1
  | (_, d) => uptoBulk d + 1
 end
def uptoSmall : (H : Type) → List (DataW H) → Bool := fun _ ds => decide (uptoBulkAll ds ≤ 1048576)
def OpenSpec.upto (s : _root_.Go.ChangeSpec) : _root_.Go.OpenSpec := { _root_.Go.OpenSpec.ofChange s with cond := some uptoSmall }

/-- 'laws.FnExactSecondOk', WHERE WHAT IT READS IS OF BULK AT MOST 1048576: true; the input reads as it did. -/
def fnExactSecondOkUptoRow : OpenClaim := { program := "ytljekapbcphdaaadoor", sum := "81a638863f989020e6eeff6851110d5fa95a55864312c169a9b1378562e43c1d", func := "loop.example/sigmaproofs/laws.FnExactSecondOk", spec := "fnExactSecondOk", named := ["loop.example/sigmaproofs/impl.groups"], apart := false, laid := [("loop.example/sigmaproofs/impl.groups", laid_loop_example_sigmaproofs_impl_groups)], narrowed := true }
def FnExactSecondOkUptoSaid : Prop := fnExactSecondOkUptoRow.holds Tryd.pinned (OpenSpec.upto fnExactSecondOkSpec)

/-- 'laws.FnExactEnvelopeOf', WHERE WHAT IT READS IS OF BULK AT MOST 1048576: true; the input reads as it did. -/
def fnExactEnvelopeOfUptoRow : OpenClaim := { program := "ytljekapbcphdaaadoor", sum := "81a638863f989020e6eeff6851110d5fa95a55864312c169a9b1378562e43c1d", func := "loop.example/sigmaproofs/laws.FnExactEnvelopeOf", spec := "fnExactEnvelopeOf", named := ["loop.example/sigmaproofs/impl.groups"], apart := false, laid := [("loop.example/sigmaproofs/impl.groups", laid_loop_example_sigmaproofs_impl_groups)], narrowed := true }
def FnExactEnvelopeOfUptoSaid : Prop := fnExactEnvelopeOfUptoRow.holds Tryd.pinned (OpenSpec.upto fnExactEnvelopeOfSpec)

/-- 'laws.FnExactEnvelopeSum', WHERE WHAT IT READS IS OF BULK AT MOST 1048576: true; the input reads as it did. -/
def fnExactEnvelopeSumUptoRow : OpenClaim := { program := "ytljekapbcphdaaadoor", sum := "81a638863f989020e6eeff6851110d5fa95a55864312c169a9b1378562e43c1d", func := "loop.example/sigmaproofs/laws.FnExactEnvelopeSum", spec := "fnExactEnvelopeSum", named := ["loop.example/sigmaproofs/impl.groups"], apart := false, laid := [("loop.example/sigmaproofs/impl.groups", laid_loop_example_sigmaproofs_impl_groups)], narrowed := true }
def FnExactEnvelopeSumUptoSaid : Prop := fnExactEnvelopeSumUptoRow.holds Tryd.pinned (OpenSpec.upto fnExactEnvelopeSumSpec)

/-- 'laws.FnExactBaseFrom', WHERE WHAT IT READS IS OF BULK AT MOST 1048576: true; the input reads as it did. -/
def fnExactBaseFromUptoRow : OpenClaim := { program := "ytljekapbcphdaaadoor", sum := "81a638863f989020e6eeff6851110d5fa95a55864312c169a9b1378562e43c1d", func := "loop.example/sigmaproofs/laws.FnExactBaseFrom", spec := "fnExactBaseFrom", named := ["loop.example/sigmaproofs/impl.groups"], apart := false, laid := [("loop.example/sigmaproofs/impl.groups", laid_loop_example_sigmaproofs_impl_groups)], narrowed := true }
def FnExactBaseFromUptoSaid : Prop := fnExactBaseFromUptoRow.holds Tryd.pinned (OpenSpec.upto fnExactBaseFromSpec)

/-- 'laws.FnExactWaysOf', WHERE WHAT IT READS IS OF BULK AT MOST 1048576: true; the input reads as it did. -/
def fnExactWaysOfUptoRow : OpenClaim := { program := "ytljekapbcphdaaadoor", sum := "81a638863f989020e6eeff6851110d5fa95a55864312c169a9b1378562e43c1d", func := "loop.example/sigmaproofs/laws.FnExactWaysOf", spec := "fnExactWaysOf", named := ["loop.example/sigmaproofs/impl.groups"], apart := false, laid := [("loop.example/sigmaproofs/impl.groups", laid_loop_example_sigmaproofs_impl_groups)], narrowed := true }
def FnExactWaysOfUptoSaid : Prop := fnExactWaysOfUptoRow.holds Tryd.pinned (OpenSpec.upto fnExactWaysOfSpec)

/-- 'laws.FnSecondOk', WHERE WHAT IT READS IS OF BULK AT MOST 1048576: true; the input reads as it did. -/
def fnSecondOkUptoRow : OpenClaim := { program := "ytljekapbcphdaaadoor", sum := "81a638863f989020e6eeff6851110d5fa95a55864312c169a9b1378562e43c1d", func := "loop.example/sigmaproofs/laws.FnSecondOk", spec := "fnSecondOk", named := ["loop.example/sigmaproofs/impl.groups"], apart := false, laid := [("loop.example/sigmaproofs/impl.groups", laid_loop_example_sigmaproofs_impl_groups)], narrowed := true }
def FnSecondOkUptoSaid : Prop := fnSecondOkUptoRow.holds Tryd.pinned (OpenSpec.upto fnSecondOkSpec)

/-- 'laws.FnEnvelopeOf', WHERE WHAT IT READS IS OF BULK AT MOST 1048576: true; the input reads as it did. -/
def fnEnvelopeOfUptoRow : OpenClaim := { program := "ytljekapbcphdaaadoor", sum := "81a638863f989020e6eeff6851110d5fa95a55864312c169a9b1378562e43c1d", func := "loop.example/sigmaproofs/laws.FnEnvelopeOf", spec := "fnEnvelopeOf", named := ["loop.example/sigmaproofs/impl.groups"], apart := false, laid := [("loop.example/sigmaproofs/impl.groups", laid_loop_example_sigmaproofs_impl_groups)], narrowed := true }
def FnEnvelopeOfUptoSaid : Prop := fnEnvelopeOfUptoRow.holds Tryd.pinned (OpenSpec.upto fnEnvelopeOfSpec)

/-- 'laws.FnEnvelopeSum', WHERE WHAT IT READS IS OF BULK AT MOST 1048576: true; the input reads as it did. -/
def fnEnvelopeSumUptoRow : OpenClaim := { program := "ytljekapbcphdaaadoor", sum := "81a638863f989020e6eeff6851110d5fa95a55864312c169a9b1378562e43c1d", func := "loop.example/sigmaproofs/laws.FnEnvelopeSum", spec := "fnEnvelopeSum", named := ["loop.example/sigmaproofs/impl.groups"], apart := false, laid := [("loop.example/sigmaproofs/impl.groups", laid_loop_example_sigmaproofs_impl_groups)], narrowed := true }
def FnEnvelopeSumUptoSaid : Prop := fnEnvelopeSumUptoRow.holds Tryd.pinned (OpenSpec.upto fnEnvelopeSumSpec)

/-- 'laws.FnBaseFrom', WHERE WHAT IT READS IS OF BULK AT MOST 1048576: true; the input reads as it did. -/
def fnBaseFromUptoRow : OpenClaim := { program := "ytljekapbcphdaaadoor", sum := "81a638863f989020e6eeff6851110d5fa95a55864312c169a9b1378562e43c1d", func := "loop.example/sigmaproofs/laws.FnBaseFrom", spec := "fnBaseFrom", named := ["loop.example/sigmaproofs/impl.groups"], apart := false, laid := [("loop.example/sigmaproofs/impl.groups", laid_loop_example_sigmaproofs_impl_groups)], narrowed := true }
def FnBaseFromUptoSaid : Prop := fnBaseFromUptoRow.holds Tryd.pinned (OpenSpec.upto fnBaseFromSpec)

/-- 'laws.FnWaysOf', WHERE WHAT IT READS IS OF BULK AT MOST 1048576: true; the input reads as it did. -/
def fnWaysOfUptoRow : OpenClaim := { program := "ytljekapbcphdaaadoor", sum := "81a638863f989020e6eeff6851110d5fa95a55864312c169a9b1378562e43c1d", func := "loop.example/sigmaproofs/laws.FnWaysOf", spec := "fnWaysOf", named := ["loop.example/sigmaproofs/impl.groups"], apart := false, laid := [("loop.example/sigmaproofs/impl.groups", laid_loop_example_sigmaproofs_impl_groups)], narrowed := true }
def FnWaysOfUptoSaid : Prop := fnWaysOfUptoRow.holds Tryd.pinned (OpenSpec.upto fnWaysOfSpec)

end Rows
end Go.Proofs.YtljekapbcphdaaaDoor
