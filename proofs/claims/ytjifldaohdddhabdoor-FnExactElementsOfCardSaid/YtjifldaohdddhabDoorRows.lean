/-
  NARROWER THAN 'FOR EVERY INPUT', by the rows' own cells (each row's printed sentence says how): FnExactGroupPrime: laid · FnExactGroupOrder: laid · FnExactGroupBase: laid · FnExactElementOk: laid · FnExactExponentOk: laid · FnExactElementTimes: laid · FnExactElementPower: laid · FnExactElementsOf: laid · FnExactLogOf: laid · FnExactExponentBack: laid.
  DERIVED. THE GIVEN ROWS OF THIS SEAT. 10 by the template 'for every input the law returns true; each argument reads behind the call as it read before'; 0 by the template 'total and deterministic' (their statements: YtjifldaohdddhabDoorTotals.lean).
  GIVEN WITH THE SEED: the statements are not yours to turn. If you find one false, say at which input.
  Laid BY PROGRAM, IN A SANDBOX (cutbox-rows.mjs): the forced cells as the released guide's own fill.sh prints them over the translation ce79e9f00b2cf774… (all of the seat's roots in one cut). By AI agents, Wed Nov 11 2026. No macro, syntax, notation, axiom, sorry.
-/
import Derived.Test.YtjifldaohdddhabDoorChecked
import GoSem.Claim
import GoSem.ClaimJoined
import GoSem.ClaimMapViews
import Derived.JoinedTies
import Derived.KernelRfl
namespace Go.Proofs.YtjifldaohdddhabDoor
/- THE CELL 'sum', in the pinned program and in every row, IS THE sha256 OF THE DUMP (.gsa) THAT YtjifldaohdddhabDoorProg.lean LOADS. Nothing in Lean hashes anything: it is a label: what it is worth is what the hold of that sum in a sandbox is worth. -/
noncomputable def Tryd.pinned : Pinned := { name := "ytjifldaohdddhabdoor", sum := "ce79e9f00b2cf774b651cdc5a864621555180d7346913382f643f3cdda39bb5c", checked := Tryd.checked }
namespace Rows
def none {H : Type} : Left H := { results := [], args := [] }

/- WHAT THE LISTED PACKAGE-LEVEL VARIABLES READ AS WHEN THE CALL BEGINS. Each datum BY PROGRAM (the guide's laid-datum.mjs) off the statement by which the dump's own 'gosem.cut.vars' lays the variable. In a bare row this is a premise. The card (YtjifldaohdddhabDoorCards.lean) ties it to the program's text. -/
def laid_loop_example_sigmaproofs_impl_groups {H : Type} : DataW H := .agg [.agg [.lit (.int .i64 7), .lit (.int .i64 3), .lit (.int .i64 2)], .agg [.lit (.int .i64 11), .lit (.int .i64 5), .lit (.int .i64 3)], .agg [.lit (.int .i64 23), .lit (.int .i64 11), .lit (.int .i64 2)], .agg [.lit (.int .i64 47), .lit (.int .i64 23), .lit (.int .i64 2)]]

/-- 'laws.FnExactGroupPrime': WHATEVER THE INPUT: true; the input reads as it did. -/
def fnExactGroupPrimeSpec : ChangeSpec := { name := "fnExactGroupPrime", vars := ["loop.example/sigmaproofs/impl.groups"], fn := fun _ => fun
  | [d, g1] => { results := [.lit (.bool true)], args := [d], vars := [g1] }
  | _ => none }
def fnExactGroupPrimeRow : OpenClaim := { program := "ytjifldaohdddhabdoor", sum := "ce79e9f00b2cf774b651cdc5a864621555180d7346913382f643f3cdda39bb5c", func := "loop.example/sigmaproofs/laws.FnExactGroupPrime", spec := "fnExactGroupPrime", named := ["loop.example/sigmaproofs/impl.groups"], apart := false, laid := [("loop.example/sigmaproofs/impl.groups", laid_loop_example_sigmaproofs_impl_groups)] }
def FnExactGroupPrimeSaid : Prop := fnExactGroupPrimeRow.holds Tryd.pinned (OpenSpec.ofChange fnExactGroupPrimeSpec)

/-- ITS FALSE NEIGHBOUR: 'it returns false'. Refute it at one input. -/
def fnExactGroupPrimeWrong : ChangeSpec := { name := "fnExactGroupPrime", vars := ["loop.example/sigmaproofs/impl.groups"], fn := fun _ => fun
  | [d, g1] => { results := [.lit (.bool false)], args := [d], vars := [g1] }
  | _ => none }
def FnExactGroupPrimeWrongFalsely : Prop := fnExactGroupPrimeRow.holds Tryd.pinned (OpenSpec.ofChange fnExactGroupPrimeWrong)

/-- 'laws.FnExactGroupOrder': WHATEVER THE INPUT: true; the input reads as it did. -/
def fnExactGroupOrderSpec : ChangeSpec := { name := "fnExactGroupOrder", vars := ["loop.example/sigmaproofs/impl.groups"], fn := fun _ => fun
  | [d, g1] => { results := [.lit (.bool true)], args := [d], vars := [g1] }
  | _ => none }
def fnExactGroupOrderRow : OpenClaim := { program := "ytjifldaohdddhabdoor", sum := "ce79e9f00b2cf774b651cdc5a864621555180d7346913382f643f3cdda39bb5c", func := "loop.example/sigmaproofs/laws.FnExactGroupOrder", spec := "fnExactGroupOrder", named := ["loop.example/sigmaproofs/impl.groups"], apart := false, laid := [("loop.example/sigmaproofs/impl.groups", laid_loop_example_sigmaproofs_impl_groups)] }
def FnExactGroupOrderSaid : Prop := fnExactGroupOrderRow.holds Tryd.pinned (OpenSpec.ofChange fnExactGroupOrderSpec)

/-- ITS FALSE NEIGHBOUR: 'it returns false'. Refute it at one input. -/
def fnExactGroupOrderWrong : ChangeSpec := { name := "fnExactGroupOrder", vars := ["loop.example/sigmaproofs/impl.groups"], fn := fun _ => fun
  | [d, g1] => { results := [.lit (.bool false)], args := [d], vars := [g1] }
  | _ => none }
def FnExactGroupOrderWrongFalsely : Prop := fnExactGroupOrderRow.holds Tryd.pinned (OpenSpec.ofChange fnExactGroupOrderWrong)

/-- 'laws.FnExactGroupBase': WHATEVER THE INPUT: true; the input reads as it did. -/
def fnExactGroupBaseSpec : ChangeSpec := { name := "fnExactGroupBase", vars := ["loop.example/sigmaproofs/impl.groups"], fn := fun _ => fun
  | [d, g1] => { results := [.lit (.bool true)], args := [d], vars := [g1] }
  | _ => none }
def fnExactGroupBaseRow : OpenClaim := { program := "ytjifldaohdddhabdoor", sum := "ce79e9f00b2cf774b651cdc5a864621555180d7346913382f643f3cdda39bb5c", func := "loop.example/sigmaproofs/laws.FnExactGroupBase", spec := "fnExactGroupBase", named := ["loop.example/sigmaproofs/impl.groups"], apart := false, laid := [("loop.example/sigmaproofs/impl.groups", laid_loop_example_sigmaproofs_impl_groups)] }
def FnExactGroupBaseSaid : Prop := fnExactGroupBaseRow.holds Tryd.pinned (OpenSpec.ofChange fnExactGroupBaseSpec)

/-- ITS FALSE NEIGHBOUR: 'it returns false'. Refute it at one input. -/
def fnExactGroupBaseWrong : ChangeSpec := { name := "fnExactGroupBase", vars := ["loop.example/sigmaproofs/impl.groups"], fn := fun _ => fun
  | [d, g1] => { results := [.lit (.bool false)], args := [d], vars := [g1] }
  | _ => none }
def FnExactGroupBaseWrongFalsely : Prop := fnExactGroupBaseRow.holds Tryd.pinned (OpenSpec.ofChange fnExactGroupBaseWrong)

/-- 'laws.FnExactElementOk': WHATEVER THE INPUT: true; the input reads as it did. -/
def fnExactElementOkSpec : ChangeSpec := { name := "fnExactElementOk", vars := ["loop.example/sigmaproofs/impl.groups"], fn := fun _ => fun
  | [d1, d2, g1] => { results := [.lit (.bool true)], args := [d1, d2], vars := [g1] }
  | _ => none }
def fnExactElementOkRow : OpenClaim := { program := "ytjifldaohdddhabdoor", sum := "ce79e9f00b2cf774b651cdc5a864621555180d7346913382f643f3cdda39bb5c", func := "loop.example/sigmaproofs/laws.FnExactElementOk", spec := "fnExactElementOk", named := ["loop.example/sigmaproofs/impl.groups"], apart := false, laid := [("loop.example/sigmaproofs/impl.groups", laid_loop_example_sigmaproofs_impl_groups)] }
def FnExactElementOkSaid : Prop := fnExactElementOkRow.holds Tryd.pinned (OpenSpec.ofChange fnExactElementOkSpec)

/-- ITS FALSE NEIGHBOUR: 'it returns false'. Refute it at one input. -/
def fnExactElementOkWrong : ChangeSpec := { name := "fnExactElementOk", vars := ["loop.example/sigmaproofs/impl.groups"], fn := fun _ => fun
  | [d1, d2, g1] => { results := [.lit (.bool false)], args := [d1, d2], vars := [g1] }
  | _ => none }
def FnExactElementOkWrongFalsely : Prop := fnExactElementOkRow.holds Tryd.pinned (OpenSpec.ofChange fnExactElementOkWrong)

/-- 'laws.FnExactExponentOk': WHATEVER THE INPUT: true; the input reads as it did. -/
def fnExactExponentOkSpec : ChangeSpec := { name := "fnExactExponentOk", vars := ["loop.example/sigmaproofs/impl.groups"], fn := fun _ => fun
  | [d1, d2, g1] => { results := [.lit (.bool true)], args := [d1, d2], vars := [g1] }
  | _ => none }
def fnExactExponentOkRow : OpenClaim := { program := "ytjifldaohdddhabdoor", sum := "ce79e9f00b2cf774b651cdc5a864621555180d7346913382f643f3cdda39bb5c", func := "loop.example/sigmaproofs/laws.FnExactExponentOk", spec := "fnExactExponentOk", named := ["loop.example/sigmaproofs/impl.groups"], apart := false, laid := [("loop.example/sigmaproofs/impl.groups", laid_loop_example_sigmaproofs_impl_groups)] }
def FnExactExponentOkSaid : Prop := fnExactExponentOkRow.holds Tryd.pinned (OpenSpec.ofChange fnExactExponentOkSpec)

/-- ITS FALSE NEIGHBOUR: 'it returns false'. Refute it at one input. -/
def fnExactExponentOkWrong : ChangeSpec := { name := "fnExactExponentOk", vars := ["loop.example/sigmaproofs/impl.groups"], fn := fun _ => fun
  | [d1, d2, g1] => { results := [.lit (.bool false)], args := [d1, d2], vars := [g1] }
  | _ => none }
def FnExactExponentOkWrongFalsely : Prop := fnExactExponentOkRow.holds Tryd.pinned (OpenSpec.ofChange fnExactExponentOkWrong)

/-- 'laws.FnExactElementTimes': WHATEVER THE INPUT: true; the input reads as it did. -/
def fnExactElementTimesSpec : ChangeSpec := { name := "fnExactElementTimes", vars := ["loop.example/sigmaproofs/impl.groups"], fn := fun _ => fun
  | [d1, d2, d3, g1] => { results := [.lit (.bool true)], args := [d1, d2, d3], vars := [g1] }
  | _ => none }
def fnExactElementTimesRow : OpenClaim := { program := "ytjifldaohdddhabdoor", sum := "ce79e9f00b2cf774b651cdc5a864621555180d7346913382f643f3cdda39bb5c", func := "loop.example/sigmaproofs/laws.FnExactElementTimes", spec := "fnExactElementTimes", named := ["loop.example/sigmaproofs/impl.groups"], apart := false, laid := [("loop.example/sigmaproofs/impl.groups", laid_loop_example_sigmaproofs_impl_groups)] }
def FnExactElementTimesSaid : Prop := fnExactElementTimesRow.holds Tryd.pinned (OpenSpec.ofChange fnExactElementTimesSpec)

/-- ITS FALSE NEIGHBOUR: 'it returns false'. Refute it at one input. -/
def fnExactElementTimesWrong : ChangeSpec := { name := "fnExactElementTimes", vars := ["loop.example/sigmaproofs/impl.groups"], fn := fun _ => fun
  | [d1, d2, d3, g1] => { results := [.lit (.bool false)], args := [d1, d2, d3], vars := [g1] }
  | _ => none }
def FnExactElementTimesWrongFalsely : Prop := fnExactElementTimesRow.holds Tryd.pinned (OpenSpec.ofChange fnExactElementTimesWrong)

/-- 'laws.FnExactElementPower': WHATEVER THE INPUT: true; the input reads as it did. -/
def fnExactElementPowerSpec : ChangeSpec := { name := "fnExactElementPower", vars := ["loop.example/sigmaproofs/impl.groups"], fn := fun _ => fun
  | [d1, d2, d3, g1] => { results := [.lit (.bool true)], args := [d1, d2, d3], vars := [g1] }
  | _ => none }
def fnExactElementPowerRow : OpenClaim := { program := "ytjifldaohdddhabdoor", sum := "ce79e9f00b2cf774b651cdc5a864621555180d7346913382f643f3cdda39bb5c", func := "loop.example/sigmaproofs/laws.FnExactElementPower", spec := "fnExactElementPower", named := ["loop.example/sigmaproofs/impl.groups"], apart := false, laid := [("loop.example/sigmaproofs/impl.groups", laid_loop_example_sigmaproofs_impl_groups)] }
def FnExactElementPowerSaid : Prop := fnExactElementPowerRow.holds Tryd.pinned (OpenSpec.ofChange fnExactElementPowerSpec)

/-- ITS FALSE NEIGHBOUR: 'it returns false'. Refute it at one input. -/
def fnExactElementPowerWrong : ChangeSpec := { name := "fnExactElementPower", vars := ["loop.example/sigmaproofs/impl.groups"], fn := fun _ => fun
  | [d1, d2, d3, g1] => { results := [.lit (.bool false)], args := [d1, d2, d3], vars := [g1] }
  | _ => none }
def FnExactElementPowerWrongFalsely : Prop := fnExactElementPowerRow.holds Tryd.pinned (OpenSpec.ofChange fnExactElementPowerWrong)

/-- 'laws.FnExactElementsOf': WHATEVER THE INPUT: true; the input reads as it did. -/
def fnExactElementsOfSpec : ChangeSpec := { name := "fnExactElementsOf", vars := ["loop.example/sigmaproofs/impl.groups"], fn := fun _ => fun
  | [d, g1] => { results := [.lit (.bool true)], args := [d], vars := [g1] }
  | _ => none }
def fnExactElementsOfRow : OpenClaim := { program := "ytjifldaohdddhabdoor", sum := "ce79e9f00b2cf774b651cdc5a864621555180d7346913382f643f3cdda39bb5c", func := "loop.example/sigmaproofs/laws.FnExactElementsOf", spec := "fnExactElementsOf", named := ["loop.example/sigmaproofs/impl.groups"], apart := false, laid := [("loop.example/sigmaproofs/impl.groups", laid_loop_example_sigmaproofs_impl_groups)] }
def FnExactElementsOfSaid : Prop := fnExactElementsOfRow.holds Tryd.pinned (OpenSpec.ofChange fnExactElementsOfSpec)

/-- ITS FALSE NEIGHBOUR: 'it returns false'. Refute it at one input. -/
def fnExactElementsOfWrong : ChangeSpec := { name := "fnExactElementsOf", vars := ["loop.example/sigmaproofs/impl.groups"], fn := fun _ => fun
  | [d, g1] => { results := [.lit (.bool false)], args := [d], vars := [g1] }
  | _ => none }
def FnExactElementsOfWrongFalsely : Prop := fnExactElementsOfRow.holds Tryd.pinned (OpenSpec.ofChange fnExactElementsOfWrong)

/-- 'laws.FnExactLogOf': WHATEVER THE INPUT: true; the input reads as it did. -/
def fnExactLogOfSpec : ChangeSpec := { name := "fnExactLogOf", vars := ["loop.example/sigmaproofs/impl.groups"], fn := fun _ => fun
  | [d1, d2, d3, g1] => { results := [.lit (.bool true)], args := [d1, d2, d3], vars := [g1] }
  | _ => none }
def fnExactLogOfRow : OpenClaim := { program := "ytjifldaohdddhabdoor", sum := "ce79e9f00b2cf774b651cdc5a864621555180d7346913382f643f3cdda39bb5c", func := "loop.example/sigmaproofs/laws.FnExactLogOf", spec := "fnExactLogOf", named := ["loop.example/sigmaproofs/impl.groups"], apart := false, laid := [("loop.example/sigmaproofs/impl.groups", laid_loop_example_sigmaproofs_impl_groups)] }
def FnExactLogOfSaid : Prop := fnExactLogOfRow.holds Tryd.pinned (OpenSpec.ofChange fnExactLogOfSpec)

/-- ITS FALSE NEIGHBOUR: 'it returns false'. Refute it at one input. -/
def fnExactLogOfWrong : ChangeSpec := { name := "fnExactLogOf", vars := ["loop.example/sigmaproofs/impl.groups"], fn := fun _ => fun
  | [d1, d2, d3, g1] => { results := [.lit (.bool false)], args := [d1, d2, d3], vars := [g1] }
  | _ => none }
def FnExactLogOfWrongFalsely : Prop := fnExactLogOfRow.holds Tryd.pinned (OpenSpec.ofChange fnExactLogOfWrong)

/-- 'laws.FnExactExponentBack': WHATEVER THE INPUT: true; the input reads as it did. -/
def fnExactExponentBackSpec : ChangeSpec := { name := "fnExactExponentBack", vars := ["loop.example/sigmaproofs/impl.groups"], fn := fun _ => fun
  | [d1, d2, g1] => { results := [.lit (.bool true)], args := [d1, d2], vars := [g1] }
  | _ => none }
def fnExactExponentBackRow : OpenClaim := { program := "ytjifldaohdddhabdoor", sum := "ce79e9f00b2cf774b651cdc5a864621555180d7346913382f643f3cdda39bb5c", func := "loop.example/sigmaproofs/laws.FnExactExponentBack", spec := "fnExactExponentBack", named := ["loop.example/sigmaproofs/impl.groups"], apart := false, laid := [("loop.example/sigmaproofs/impl.groups", laid_loop_example_sigmaproofs_impl_groups)] }
def FnExactExponentBackSaid : Prop := fnExactExponentBackRow.holds Tryd.pinned (OpenSpec.ofChange fnExactExponentBackSpec)

/-- ITS FALSE NEIGHBOUR: 'it returns false'. Refute it at one input. -/
def fnExactExponentBackWrong : ChangeSpec := { name := "fnExactExponentBack", vars := ["loop.example/sigmaproofs/impl.groups"], fn := fun _ => fun
  | [d1, d2, g1] => { results := [.lit (.bool false)], args := [d1, d2], vars := [g1] }
  | _ => none }
def FnExactExponentBackWrongFalsely : Prop := fnExactExponentBackRow.holds Tryd.pinned (OpenSpec.ofChange fnExactExponentBackWrong)

/- THE SECOND FORM. 'bulk': how many values and letters a reading holds, each counted each time it is reached (what is shared counts as often as it is met; a slice's spare places count too). A statement '..UptoSaid' is the law's where the arguments, and the package variables that the reading takes, are together of bulk at most 1048576: NARROWER than '..Said'. Prove '..Said' where nothing that the law and all that it calls make is longer than what came in: it says more and counts as full. Else prove '..UptoSaid'. A law counts once. -/
mutual
def uptoBulk {H : Type} : DataW H → Nat
  | .lit (.string bytes) => bytes.length + 1
  | .lit _ => 1
  | .nil => 1
  | .ptr d => uptoBulk d + 1
  | .slice elems spare => uptoBulkAll elems + uptoBulkAll spare + 1
  | .agg parts => uptoBulkAll parts + 1
  | .iface _ d => uptoBulk d + 1
  | .map entries => uptoBulkEntries entries + 1
  | .held _ => 1
def uptoBulkAll {H : Type} : List (DataW H) → Nat
  | [] => 0
  | d :: r => uptoBulk d + uptoBulkAll r
def uptoBulkEntries {H : Type} : List (Lit × DataW H) → Nat
  | [] => 0
  | x :: r => uptoBulkEntry x + uptoBulkEntries r
def uptoBulkEntry {H : Type} : Lit × DataW H → Nat
  | (.string bytes, d) => bytes.length + uptoBulk d + 1
  | (_, d) => uptoBulk d + 1
 end
def uptoSmall : (H : Type) → List (DataW H) → Bool := fun _ ds => decide (uptoBulkAll ds ≤ 1048576)
def OpenSpec.upto (s : _root_.Go.ChangeSpec) : _root_.Go.OpenSpec := { _root_.Go.OpenSpec.ofChange s with cond := some uptoSmall }

/-- 'laws.FnExactGroupPrime', WHERE WHAT IT READS IS OF BULK AT MOST 1048576: true; the input reads as it did. -/
def fnExactGroupPrimeUptoRow : OpenClaim := { program := "ytjifldaohdddhabdoor", sum := "ce79e9f00b2cf774b651cdc5a864621555180d7346913382f643f3cdda39bb5c", func := "loop.example/sigmaproofs/laws.FnExactGroupPrime", spec := "fnExactGroupPrime", named := ["loop.example/sigmaproofs/impl.groups"], apart := false, laid := [("loop.example/sigmaproofs/impl.groups", laid_loop_example_sigmaproofs_impl_groups)], narrowed := true }
def FnExactGroupPrimeUptoSaid : Prop := fnExactGroupPrimeUptoRow.holds Tryd.pinned (OpenSpec.upto fnExactGroupPrimeSpec)

/-- 'laws.FnExactGroupOrder', WHERE WHAT IT READS IS OF BULK AT MOST 1048576: true; the input reads as it did. -/
def fnExactGroupOrderUptoRow : OpenClaim := { program := "ytjifldaohdddhabdoor", sum := "ce79e9f00b2cf774b651cdc5a864621555180d7346913382f643f3cdda39bb5c", func := "loop.example/sigmaproofs/laws.FnExactGroupOrder", spec := "fnExactGroupOrder", named := ["loop.example/sigmaproofs/impl.groups"], apart := false, laid := [("loop.example/sigmaproofs/impl.groups", laid_loop_example_sigmaproofs_impl_groups)], narrowed := true }
def FnExactGroupOrderUptoSaid : Prop := fnExactGroupOrderUptoRow.holds Tryd.pinned (OpenSpec.upto fnExactGroupOrderSpec)

/-- 'laws.FnExactGroupBase', WHERE WHAT IT READS IS OF BULK AT MOST 1048576: true; the input reads as it did. -/
def fnExactGroupBaseUptoRow : OpenClaim := { program := "ytjifldaohdddhabdoor", sum := "ce79e9f00b2cf774b651cdc5a864621555180d7346913382f643f3cdda39bb5c", func := "loop.example/sigmaproofs/laws.FnExactGroupBase", spec := "fnExactGroupBase", named := ["loop.example/sigmaproofs/impl.groups"], apart := false, laid := [("loop.example/sigmaproofs/impl.groups", laid_loop_example_sigmaproofs_impl_groups)], narrowed := true }
def FnExactGroupBaseUptoSaid : Prop := fnExactGroupBaseUptoRow.holds Tryd.pinned (OpenSpec.upto fnExactGroupBaseSpec)

/-- 'laws.FnExactElementOk', WHERE WHAT IT READS IS OF BULK AT MOST 1048576: true; the input reads as it did. -/
def fnExactElementOkUptoRow : OpenClaim := { program := "ytjifldaohdddhabdoor", sum := "ce79e9f00b2cf774b651cdc5a864621555180d7346913382f643f3cdda39bb5c", func := "loop.example/sigmaproofs/laws.FnExactElementOk", spec := "fnExactElementOk", named := ["loop.example/sigmaproofs/impl.groups"], apart := false, laid := [("loop.example/sigmaproofs/impl.groups", laid_loop_example_sigmaproofs_impl_groups)], narrowed := true }
def FnExactElementOkUptoSaid : Prop := fnExactElementOkUptoRow.holds Tryd.pinned (OpenSpec.upto fnExactElementOkSpec)

/-- 'laws.FnExactExponentOk', WHERE WHAT IT READS IS OF BULK AT MOST 1048576: true; the input reads as it did. -/
def fnExactExponentOkUptoRow : OpenClaim := { program := "ytjifldaohdddhabdoor", sum := "ce79e9f00b2cf774b651cdc5a864621555180d7346913382f643f3cdda39bb5c", func := "loop.example/sigmaproofs/laws.FnExactExponentOk", spec := "fnExactExponentOk", named := ["loop.example/sigmaproofs/impl.groups"], apart := false, laid := [("loop.example/sigmaproofs/impl.groups", laid_loop_example_sigmaproofs_impl_groups)], narrowed := true }
def FnExactExponentOkUptoSaid : Prop := fnExactExponentOkUptoRow.holds Tryd.pinned (OpenSpec.upto fnExactExponentOkSpec)

/-- 'laws.FnExactElementTimes', WHERE WHAT IT READS IS OF BULK AT MOST 1048576: true; the input reads as it did. -/
def fnExactElementTimesUptoRow : OpenClaim := { program := "ytjifldaohdddhabdoor", sum := "ce79e9f00b2cf774b651cdc5a864621555180d7346913382f643f3cdda39bb5c", func := "loop.example/sigmaproofs/laws.FnExactElementTimes", spec := "fnExactElementTimes", named := ["loop.example/sigmaproofs/impl.groups"], apart := false, laid := [("loop.example/sigmaproofs/impl.groups", laid_loop_example_sigmaproofs_impl_groups)], narrowed := true }
def FnExactElementTimesUptoSaid : Prop := fnExactElementTimesUptoRow.holds Tryd.pinned (OpenSpec.upto fnExactElementTimesSpec)

/-- 'laws.FnExactElementPower', WHERE WHAT IT READS IS OF BULK AT MOST 1048576: true; the input reads as it did. -/
def fnExactElementPowerUptoRow : OpenClaim := { program := "ytjifldaohdddhabdoor", sum := "ce79e9f00b2cf774b651cdc5a864621555180d7346913382f643f3cdda39bb5c", func := "loop.example/sigmaproofs/laws.FnExactElementPower", spec := "fnExactElementPower", named := ["loop.example/sigmaproofs/impl.groups"], apart := false, laid := [("loop.example/sigmaproofs/impl.groups", laid_loop_example_sigmaproofs_impl_groups)], narrowed := true }
def FnExactElementPowerUptoSaid : Prop := fnExactElementPowerUptoRow.holds Tryd.pinned (OpenSpec.upto fnExactElementPowerSpec)

/-- 'laws.FnExactElementsOf', WHERE WHAT IT READS IS OF BULK AT MOST 1048576: true; the input reads as it did. -/
def fnExactElementsOfUptoRow : OpenClaim := { program := "ytjifldaohdddhabdoor", sum := "ce79e9f00b2cf774b651cdc5a864621555180d7346913382f643f3cdda39bb5c", func := "loop.example/sigmaproofs/laws.FnExactElementsOf", spec := "fnExactElementsOf", named := ["loop.example/sigmaproofs/impl.groups"], apart := false, laid := [("loop.example/sigmaproofs/impl.groups", laid_loop_example_sigmaproofs_impl_groups)], narrowed := true }
def FnExactElementsOfUptoSaid : Prop := fnExactElementsOfUptoRow.holds Tryd.pinned (OpenSpec.upto fnExactElementsOfSpec)

/-- 'laws.FnExactLogOf', WHERE WHAT IT READS IS OF BULK AT MOST 1048576: true; the input reads as it did. -/
def fnExactLogOfUptoRow : OpenClaim := { program := "ytjifldaohdddhabdoor", sum := "ce79e9f00b2cf774b651cdc5a864621555180d7346913382f643f3cdda39bb5c", func := "loop.example/sigmaproofs/laws.FnExactLogOf", spec := "fnExactLogOf", named := ["loop.example/sigmaproofs/impl.groups"], apart := false, laid := [("loop.example/sigmaproofs/impl.groups", laid_loop_example_sigmaproofs_impl_groups)], narrowed := true }
def FnExactLogOfUptoSaid : Prop := fnExactLogOfUptoRow.holds Tryd.pinned (OpenSpec.upto fnExactLogOfSpec)

/-- 'laws.FnExactExponentBack', WHERE WHAT IT READS IS OF BULK AT MOST 1048576: true; the input reads as it did. -/
def fnExactExponentBackUptoRow : OpenClaim := { program := "ytjifldaohdddhabdoor", sum := "ce79e9f00b2cf774b651cdc5a864621555180d7346913382f643f3cdda39bb5c", func := "loop.example/sigmaproofs/laws.FnExactExponentBack", spec := "fnExactExponentBack", named := ["loop.example/sigmaproofs/impl.groups"], apart := false, laid := [("loop.example/sigmaproofs/impl.groups", laid_loop_example_sigmaproofs_impl_groups)], narrowed := true }
def FnExactExponentBackUptoSaid : Prop := fnExactExponentBackUptoRow.holds Tryd.pinned (OpenSpec.upto fnExactExponentBackSpec)

end Rows
end Go.Proofs.YtjifldaohdddhabDoor
