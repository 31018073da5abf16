/-
  NARROWER THAN 'FOR EVERY INPUT', by the rows' own cells (each row's printed sentence says how): FnKeyOf: laid · FnTalkOf: laid · FnTalkOk: laid · FnMadeUp: laid · FnSecretFrom: laid · FnTalksMany: laid.
  DERIVED. THE GIVEN ROWS OF THIS SEAT. 6 by the template 'for every input the law returns true; each argument reads behind the call as it read before'; 0 by the template 'total and deterministic' (their statements: YtacaeoalplggfaaDoorTotals.lean).
  GIVEN WITH THE SEED: the statements are not yours to turn. If you find one false, say at which input.
  Laid BY PROGRAM, IN A SANDBOX (cutbox-rows.mjs): the forced cells as the released guide's own fill.sh prints them over the translation c0fe672739d674ec… (all of the seat's roots in one cut). By AI agents, Wed Nov 11 2026. No macro, syntax, notation, axiom, sorry.
-/
import Derived.Test.YtacaeoalplggfaaDoorChecked
import GoSem.Claim
import GoSem.ClaimJoined
import GoSem.ClaimMapViews
import Derived.JoinedTies
import Derived.KernelRfl
namespace Go.Proofs.YtacaeoalplggfaaDoor
/- THE CELL 'sum', in the pinned program and in every row, IS THE sha256 OF THE DUMP (.gsa) THAT YtacaeoalplggfaaDoorProg.lean LOADS. Nothing in Lean hashes anything: it is a label: what it is worth is what the hold of that sum in a sandbox is worth. -/
noncomputable def Tryd.pinned : Pinned := { name := "ytacaeoalplggfaadoor", sum := "c0fe672739d674ecd357ffa71ec5f681d1f6b2d6717fa6642c7e1fbfcae2f694", checked := Tryd.checked }
namespace Rows
def none {H : Type} : Left H := { results := [], args := [] }

/- WHAT THE LISTED PACKAGE-LEVEL VARIABLES READ AS WHEN THE CALL BEGINS. Each datum BY PROGRAM (the guide's laid-datum.mjs) off the statement by which the dump's own 'gosem.cut.vars' lays the variable. In a bare row this is a premise. The card (YtacaeoalplggfaaDoorCards.lean) ties it to the program's text. -/
def laid_loop_example_sigmaproofs_impl_groups {H : Type} : DataW H := .agg [.agg [.lit (.int .i64 7), .lit (.int .i64 3), .lit (.int .i64 2)], .agg [.lit (.int .i64 11), .lit (.int .i64 5), .lit (.int .i64 3)], .agg [.lit (.int .i64 23), .lit (.int .i64 11), .lit (.int .i64 2)], .agg [.lit (.int .i64 47), .lit (.int .i64 23), .lit (.int .i64 2)]]

/-- 'laws.FnKeyOf': WHATEVER THE INPUT: true; the input reads as it did. -/
def fnKeyOfSpec : ChangeSpec := { name := "fnKeyOf", vars := ["loop.example/sigmaproofs/impl.groups"], fn := fun _ => fun
  | [d, g1] => { results := [.lit (.bool true)], args := [d], vars := [g1] }
  | _ => none }
def fnKeyOfRow : OpenClaim := { program := "ytacaeoalplggfaadoor", sum := "c0fe672739d674ecd357ffa71ec5f681d1f6b2d6717fa6642c7e1fbfcae2f694", func := "loop.example/sigmaproofs/laws.FnKeyOf", spec := "fnKeyOf", named := ["loop.example/sigmaproofs/impl.groups"], apart := false, laid := [("loop.example/sigmaproofs/impl.groups", laid_loop_example_sigmaproofs_impl_groups)] }
def FnKeyOfSaid : Prop := fnKeyOfRow.holds Tryd.pinned (OpenSpec.ofChange fnKeyOfSpec)

/-- ITS FALSE NEIGHBOUR: 'it returns false'. Refute it at one input. -/
def fnKeyOfWrong : ChangeSpec := { name := "fnKeyOf", vars := ["loop.example/sigmaproofs/impl.groups"], fn := fun _ => fun
  | [d, g1] => { results := [.lit (.bool false)], args := [d], vars := [g1] }
  | _ => none }
def FnKeyOfWrongFalsely : Prop := fnKeyOfRow.holds Tryd.pinned (OpenSpec.ofChange fnKeyOfWrong)

/-- 'laws.FnTalkOf': WHATEVER THE INPUT: true; the input reads as it did. -/
def fnTalkOfSpec : ChangeSpec := { name := "fnTalkOf", vars := ["loop.example/sigmaproofs/impl.groups"], fn := fun _ => fun
  | [d, g1] => { results := [.lit (.bool true)], args := [d], vars := [g1] }
  | _ => none }
def fnTalkOfRow : OpenClaim := { program := "ytacaeoalplggfaadoor", sum := "c0fe672739d674ecd357ffa71ec5f681d1f6b2d6717fa6642c7e1fbfcae2f694", func := "loop.example/sigmaproofs/laws.FnTalkOf", spec := "fnTalkOf", named := ["loop.example/sigmaproofs/impl.groups"], apart := false, laid := [("loop.example/sigmaproofs/impl.groups", laid_loop_example_sigmaproofs_impl_groups)] }
def FnTalkOfSaid : Prop := fnTalkOfRow.holds Tryd.pinned (OpenSpec.ofChange fnTalkOfSpec)

/-- ITS FALSE NEIGHBOUR: 'it returns false'. Refute it at one input. -/
def fnTalkOfWrong : ChangeSpec := { name := "fnTalkOf", vars := ["loop.example/sigmaproofs/impl.groups"], fn := fun _ => fun
  | [d, g1] => { results := [.lit (.bool false)], args := [d], vars := [g1] }
  | _ => none }
def FnTalkOfWrongFalsely : Prop := fnTalkOfRow.holds Tryd.pinned (OpenSpec.ofChange fnTalkOfWrong)

/-- 'laws.FnTalkOk': WHATEVER THE INPUT: true; the input reads as it did. -/
def fnTalkOkSpec : ChangeSpec := { name := "fnTalkOk", vars := ["loop.example/sigmaproofs/impl.groups"], fn := fun _ => fun
  | [d, g1] => { results := [.lit (.bool true)], args := [d], vars := [g1] }
  | _ => none }
def fnTalkOkRow : OpenClaim := { program := "ytacaeoalplggfaadoor", sum := "c0fe672739d674ecd357ffa71ec5f681d1f6b2d6717fa6642c7e1fbfcae2f694", func := "loop.example/sigmaproofs/laws.FnTalkOk", spec := "fnTalkOk", named := ["loop.example/sigmaproofs/impl.groups"], apart := false, laid := [("loop.example/sigmaproofs/impl.groups", laid_loop_example_sigmaproofs_impl_groups)] }
def FnTalkOkSaid : Prop := fnTalkOkRow.holds Tryd.pinned (OpenSpec.ofChange fnTalkOkSpec)

/-- ITS FALSE NEIGHBOUR: 'it returns false'. Refute it at one input. -/
def fnTalkOkWrong : ChangeSpec := { name := "fnTalkOk", vars := ["loop.example/sigmaproofs/impl.groups"], fn := fun _ => fun
  | [d, g1] => { results := [.lit (.bool false)], args := [d], vars := [g1] }
  | _ => none }
def FnTalkOkWrongFalsely : Prop := fnTalkOkRow.holds Tryd.pinned (OpenSpec.ofChange fnTalkOkWrong)

/-- 'laws.FnMadeUp': WHATEVER THE INPUT: true; the input reads as it did. -/
def fnMadeUpSpec : ChangeSpec := { name := "fnMadeUp", vars := ["loop.example/sigmaproofs/impl.groups"], fn := fun _ => fun
  | [d, g1] => { results := [.lit (.bool true)], args := [d], vars := [g1] }
  | _ => none }
def fnMadeUpRow : OpenClaim := { program := "ytacaeoalplggfaadoor", sum := "c0fe672739d674ecd357ffa71ec5f681d1f6b2d6717fa6642c7e1fbfcae2f694", func := "loop.example/sigmaproofs/laws.FnMadeUp", spec := "fnMadeUp", named := ["loop.example/sigmaproofs/impl.groups"], apart := false, laid := [("loop.example/sigmaproofs/impl.groups", laid_loop_example_sigmaproofs_impl_groups)] }
def FnMadeUpSaid : Prop := fnMadeUpRow.holds Tryd.pinned (OpenSpec.ofChange fnMadeUpSpec)

/-- ITS FALSE NEIGHBOUR: 'it returns false'. Refute it at one input. -/
def fnMadeUpWrong : ChangeSpec := { name := "fnMadeUp", vars := ["loop.example/sigmaproofs/impl.groups"], fn := fun _ => fun
  | [d, g1] => { results := [.lit (.bool false)], args := [d], vars := [g1] }
  | _ => none }
def FnMadeUpWrongFalsely : Prop := fnMadeUpRow.holds Tryd.pinned (OpenSpec.ofChange fnMadeUpWrong)

/-- 'laws.FnSecretFrom': WHATEVER THE INPUT: true; the input reads as it did. -/
def fnSecretFromSpec : ChangeSpec := { name := "fnSecretFrom", vars := ["loop.example/sigmaproofs/impl.groups"], fn := fun _ => fun
  | [d, g1] => { results := [.lit (.bool true)], args := [d], vars := [g1] }
  | _ => none }
def fnSecretFromRow : OpenClaim := { program := "ytacaeoalplggfaadoor", sum := "c0fe672739d674ecd357ffa71ec5f681d1f6b2d6717fa6642c7e1fbfcae2f694", func := "loop.example/sigmaproofs/laws.FnSecretFrom", spec := "fnSecretFrom", named := ["loop.example/sigmaproofs/impl.groups"], apart := false, laid := [("loop.example/sigmaproofs/impl.groups", laid_loop_example_sigmaproofs_impl_groups)] }
def FnSecretFromSaid : Prop := fnSecretFromRow.holds Tryd.pinned (OpenSpec.ofChange fnSecretFromSpec)

/-- ITS FALSE NEIGHBOUR: 'it returns false'. Refute it at one input. -/
def fnSecretFromWrong : ChangeSpec := { name := "fnSecretFrom", vars := ["loop.example/sigmaproofs/impl.groups"], fn := fun _ => fun
  | [d, g1] => { results := [.lit (.bool false)], args := [d], vars := [g1] }
  | _ => none }
def FnSecretFromWrongFalsely : Prop := fnSecretFromRow.holds Tryd.pinned (OpenSpec.ofChange fnSecretFromWrong)

/-- 'laws.FnTalksMany': WHATEVER THE INPUT: true; the input reads as it did. -/
def fnTalksManySpec : ChangeSpec := { name := "fnTalksMany", vars := ["loop.example/sigmaproofs/impl.groups"], fn := fun _ => fun
  | [d, g1] => { results := [.lit (.bool true)], args := [d], vars := [g1] }
  | _ => none }
def fnTalksManyRow : OpenClaim := { program := "ytacaeoalplggfaadoor", sum := "c0fe672739d674ecd357ffa71ec5f681d1f6b2d6717fa6642c7e1fbfcae2f694", func := "loop.example/sigmaproofs/laws.FnTalksMany", spec := "fnTalksMany", named := ["loop.example/sigmaproofs/impl.groups"], apart := false, laid := [("loop.example/sigmaproofs/impl.groups", laid_loop_example_sigmaproofs_impl_groups)] }
def FnTalksManySaid : Prop := fnTalksManyRow.holds Tryd.pinned (OpenSpec.ofChange fnTalksManySpec)

/-- ITS FALSE NEIGHBOUR: 'it returns false'. Refute it at one input. -/
def fnTalksManyWrong : ChangeSpec := { name := "fnTalksMany", vars := ["loop.example/sigmaproofs/impl.groups"], fn := fun _ => fun
  | [d, g1] => { results := [.lit (.bool false)], args := [d], vars := [g1] }
  | _ => none }
def FnTalksManyWrongFalsely : Prop := fnTalksManyRow.holds Tryd.pinned (OpenSpec.ofChange fnTalksManyWrong)

/- THE SECOND FORM. 'bulk': how many values and letters a reading holds, each counted each time it is reached (what is shared counts as often as it is met; a slice's spare places count too). A statement '..UptoSaid' is the law's where the arguments, and the package variables that the reading takes, are together of bulk at most 1048576: NARROWER than '..Said'. Prove '..Said' where nothing that the law and all that it calls make is longer than what came in: it says more and counts as full. Else prove '..UptoSaid'. A law counts once. -/
mutual
def uptoBulk {H : Type} : DataW H → Nat
  | .lit (.string bytes) => bytes.length + 1
  | .lit _ => 1
  | .nil => 1
  | .ptr d => uptoBulk d + 1
  | .slice elems spare => uptoBulkAll elems + uptoBulkAll spare + 1
  | .agg parts => uptoBulkAll parts + 1
  | .iface _ d => uptoBulk d + 1
  | .map entries => uptoBulkEntries entries + 1
  | .held _ => 1
def uptoBulkAll {H : Type} : List (DataW H) → Nat
  | [] => 0
  | d :: r => uptoBulk d + uptoBulkAll r
def uptoBulkEntries {H : Type} : List (Lit × DataW H) → Nat
  | [] => 0
  | x :: r => uptoBulkEntry x + uptoBulkEntries r
def uptoBulkEntry {H : Type} : Lit × DataW H → Nat
  | (.string bytes, d) => bytes.length + uptoBulk d + 1
  | (_, d) => uptoBulk d + 1
 end
def uptoSmall : (H : Type) → List (DataW H) → Bool := fun _ ds => decide (uptoBulkAll ds ≤ 1048576)
def OpenSpec.upto (s : _root_.Go.ChangeSpec) : _root_.Go.OpenSpec := { _root_.Go.OpenSpec.ofChange s with cond := some uptoSmall }

/-- 'laws.FnKeyOf', WHERE WHAT IT READS IS OF BULK AT MOST 1048576: true; the input reads as it did. -/
def fnKeyOfUptoRow : OpenClaim := { program := "ytacaeoalplggfaadoor", sum := "c0fe672739d674ecd357ffa71ec5f681d1f6b2d6717fa6642c7e1fbfcae2f694", func := "loop.example/sigmaproofs/laws.FnKeyOf", spec := "fnKeyOf", named := ["loop.example/sigmaproofs/impl.groups"], apart := false, laid := [("loop.example/sigmaproofs/impl.groups", laid_loop_example_sigmaproofs_impl_groups)], narrowed := true }
def FnKeyOfUptoSaid : Prop := fnKeyOfUptoRow.holds Tryd.pinned (OpenSpec.upto fnKeyOfSpec)

/-- 'laws.FnTalkOf', WHERE WHAT IT READS IS OF BULK AT MOST 1048576: true; the input reads as it did. -/
def fnTalkOfUptoRow : OpenClaim := { program := "ytacaeoalplggfaadoor", sum := "c0fe672739d674ecd357ffa71ec5f681d1f6b2d6717fa6642c7e1fbfcae2f694", func := "loop.example/sigmaproofs/laws.FnTalkOf", spec := "fnTalkOf", named := ["loop.example/sigmaproofs/impl.groups"], apart := false, laid := [("loop.example/sigmaproofs/impl.groups", laid_loop_example_sigmaproofs_impl_groups)], narrowed := true }
def FnTalkOfUptoSaid : Prop := fnTalkOfUptoRow.holds Tryd.pinned (OpenSpec.upto fnTalkOfSpec)

/-- 'laws.FnTalkOk', WHERE WHAT IT READS IS OF BULK AT MOST 1048576: true; the input reads as it did. -/
def fnTalkOkUptoRow : OpenClaim := { program := "ytacaeoalplggfaadoor", sum := "c0fe672739d674ecd357ffa71ec5f681d1f6b2d6717fa6642c7e1fbfcae2f694", func := "loop.example/sigmaproofs/laws.FnTalkOk", spec := "fnTalkOk", named := ["loop.example/sigmaproofs/impl.groups"], apart := false, laid := [("loop.example/sigmaproofs/impl.groups", laid_loop_example_sigmaproofs_impl_groups)], narrowed := true }
def FnTalkOkUptoSaid : Prop := fnTalkOkUptoRow.holds Tryd.pinned (OpenSpec.upto fnTalkOkSpec)

/-- 'laws.FnMadeUp', WHERE WHAT IT READS IS OF BULK AT MOST 1048576: true; the input reads as it did. -/
def fnMadeUpUptoRow : OpenClaim := { program := "ytacaeoalplggfaadoor", sum := "c0fe672739d674ecd357ffa71ec5f681d1f6b2d6717fa6642c7e1fbfcae2f694", func := "loop.example/sigmaproofs/laws.FnMadeUp", spec := "fnMadeUp", named := ["loop.example/sigmaproofs/impl.groups"], apart := false, laid := [("loop.example/sigmaproofs/impl.groups", laid_loop_example_sigmaproofs_impl_groups)], narrowed := true }
def FnMadeUpUptoSaid : Prop := fnMadeUpUptoRow.holds Tryd.pinned (OpenSpec.upto fnMadeUpSpec)

/-- 'laws.FnSecretFrom', WHERE WHAT IT READS IS OF BULK AT MOST 1048576: true; the input reads as it did. -/
def fnSecretFromUptoRow : OpenClaim := { program := "ytacaeoalplggfaadoor", sum := "c0fe672739d674ecd357ffa71ec5f681d1f6b2d6717fa6642c7e1fbfcae2f694", func := "loop.example/sigmaproofs/laws.FnSecretFrom", spec := "fnSecretFrom", named := ["loop.example/sigmaproofs/impl.groups"], apart := false, laid := [("loop.example/sigmaproofs/impl.groups", laid_loop_example_sigmaproofs_impl_groups)], narrowed := true }
def FnSecretFromUptoSaid : Prop := fnSecretFromUptoRow.holds Tryd.pinned (OpenSpec.upto fnSecretFromSpec)

/-- 'laws.FnTalksMany', WHERE WHAT IT READS IS OF BULK AT MOST 1048576: true; the input reads as it did. -/
def fnTalksManyUptoRow : OpenClaim := { program := "ytacaeoalplggfaadoor", sum := "c0fe672739d674ecd357ffa71ec5f681d1f6b2d6717fa6642c7e1fbfcae2f694", func := "loop.example/sigmaproofs/laws.FnTalksMany", spec := "fnTalksMany", named := ["loop.example/sigmaproofs/impl.groups"], apart := false, laid := [("loop.example/sigmaproofs/impl.groups", laid_loop_example_sigmaproofs_impl_groups)], narrowed := true }
def FnTalksManyUptoSaid : Prop := fnTalksManyUptoRow.holds Tryd.pinned (OpenSpec.upto fnTalksManySpec)

end Rows
end Go.Proofs.YtacaeoalplggfaaDoor
