/-
  NARROWER THAN 'FOR EVERY INPUT', by the rows' own cells (each row's printed sentence says how): FnGroupPrime: laid · FnGroupOrder: laid · FnGroupBase: laid · FnElementOk: laid · FnExponentOk: laid · FnElementTimes: laid · FnElementPower: laid · FnElementsOf: laid · FnLogOf: laid · FnExponentBack: laid.
  DERIVED. THE GIVEN ROWS OF THIS SEAT. 10 by the template 'for every input the law returns true; each argument reads behind the call as it read before'; 0 by the template 'total and deterministic' (their statements: YtjifldaohdddhaaDoorTotals.lean).
  GIVEN WITH THE SEED: the statements are not yours to turn. If you find one false, say at which input.
  Laid BY PROGRAM, IN A SANDBOX (cutbox-rows.mjs): the forced cells as the released guide's own fill.sh prints them over the translation 10c51666a24c9d6c… (all of the seat's roots in one cut). By AI agents, Wed Nov 11 2026. No macro, syntax, notation, axiom, sorry.
-/
import Derived.Test.YtjifldaohdddhaaDoorChecked
import GoSem.Claim
import GoSem.ClaimJoined
import GoSem.ClaimMapViews
import Derived.JoinedTies
import Derived.KernelRfl
namespace Go.Proofs.YtjifldaohdddhaaDoor
/- THE CELL 'sum', in the pinned program and in every row, IS THE sha256 OF THE DUMP (.gsa) THAT YtjifldaohdddhaaDoorProg.lean LOADS. Nothing in Lean hashes anything: it is a label: what it is worth is what the hold of that sum in a sandbox is worth. -/
noncomputable def Tryd.pinned : Pinned := { name := "ytjifldaohdddhaadoor", sum := "10c51666a24c9d6ce4044556a6ff3a5b25f4fc08f93a01044421316c1201a27e", checked := Tryd.checked }
namespace Rows
def none {H : Type} : Left H := { results := [], args := [] }

/- WHAT THE LISTED PACKAGE-LEVEL VARIABLES READ AS WHEN THE CALL BEGINS. Each datum BY PROGRAM (the guide's laid-datum.mjs) off the statement by which the dump's own 'gosem.cut.vars' lays the variable. In a bare row this is a premise. The card (YtjifldaohdddhaaDoorCards.lean) ties it to the program's text. -/
def laid_loop_example_sigmaproofs_impl_groups {H : Type} : DataW H := .agg [.agg [.lit (.int .i64 7), .lit (.int .i64 3), .lit (.int .i64 2)], .agg [.lit (.int .i64 11), .lit (.int .i64 5), .lit (.int .i64 3)], .agg [.lit (.int .i64 23), .lit (.int .i64 11), .lit (.int .i64 2)], .agg [.lit (.int .i64 47), .lit (.int .i64 23), .lit (.int .i64 2)]]

/-- 'laws.FnGroupPrime': WHATEVER THE INPUT: true; the input reads as it did. -/
def fnGroupPrimeSpec : ChangeSpec := { name := "fnGroupPrime", vars := ["loop.example/sigmaproofs/impl.groups"], fn := fun _ => fun
  | [d, g1] => { results := [.lit (.bool true)], args := [d], vars := [g1] }
  | _ => none }
def fnGroupPrimeRow : OpenClaim := { program := "ytjifldaohdddhaadoor", sum := "10c51666a24c9d6ce4044556a6ff3a5b25f4fc08f93a01044421316c1201a27e", func := "loop.example/sigmaproofs/laws.FnGroupPrime", spec := "fnGroupPrime", named := ["loop.example/sigmaproofs/impl.groups"], apart := false, laid := [("loop.example/sigmaproofs/impl.groups", laid_loop_example_sigmaproofs_impl_groups)] }
def FnGroupPrimeSaid : Prop := fnGroupPrimeRow.holds Tryd.pinned (OpenSpec.ofChange fnGroupPrimeSpec)

/-- ITS FALSE NEIGHBOUR: 'it returns false'. Refute it at one input. -/
def fnGroupPrimeWrong : ChangeSpec := { name := "fnGroupPrime", vars := ["loop.example/sigmaproofs/impl.groups"], fn := fun _ => fun
  | [d, g1] => { results := [.lit (.bool false)], args := [d], vars := [g1] }
  | _ => none }
def FnGroupPrimeWrongFalsely : Prop := fnGroupPrimeRow.holds Tryd.pinned (OpenSpec.ofChange fnGroupPrimeWrong)

/-- 'laws.FnGroupOrder': WHATEVER THE INPUT: true; the input reads as it did. -/
def fnGroupOrderSpec : ChangeSpec := { name := "fnGroupOrder", vars := ["loop.example/sigmaproofs/impl.groups"], fn := fun _ => fun
  | [d, g1] => { results := [.lit (.bool true)], args := [d], vars := [g1] }
  | _ => none }
def fnGroupOrderRow : OpenClaim := { program := "ytjifldaohdddhaadoor", sum := "10c51666a24c9d6ce4044556a6ff3a5b25f4fc08f93a01044421316c1201a27e", func := "loop.example/sigmaproofs/laws.FnGroupOrder", spec := "fnGroupOrder", named := ["loop.example/sigmaproofs/impl.groups"], apart := false, laid := [("loop.example/sigmaproofs/impl.groups", laid_loop_example_sigmaproofs_impl_groups)] }
def FnGroupOrderSaid : Prop := fnGroupOrderRow.holds Tryd.pinned (OpenSpec.ofChange fnGroupOrderSpec)

/-- ITS FALSE NEIGHBOUR: 'it returns false'. Refute it at one input. -/
def fnGroupOrderWrong : ChangeSpec := { name := "fnGroupOrder", vars := ["loop.example/sigmaproofs/impl.groups"], fn := fun _ => fun
  | [d, g1] => { results := [.lit (.bool false)], args := [d], vars := [g1] }
  | _ => none }
def FnGroupOrderWrongFalsely : Prop := fnGroupOrderRow.holds Tryd.pinned (OpenSpec.ofChange fnGroupOrderWrong)

/-- 'laws.FnGroupBase': WHATEVER THE INPUT: true; the input reads as it did. -/
def fnGroupBaseSpec : ChangeSpec := { name := "fnGroupBase", vars := ["loop.example/sigmaproofs/impl.groups"], fn := fun _ => fun
  | [d, g1] => { results := [.lit (.bool true)], args := [d], vars := [g1] }
  | _ => none }
def fnGroupBaseRow : OpenClaim := { program := "ytjifldaohdddhaadoor", sum := "10c51666a24c9d6ce4044556a6ff3a5b25f4fc08f93a01044421316c1201a27e", func := "loop.example/sigmaproofs/laws.FnGroupBase", spec := "fnGroupBase", named := ["loop.example/sigmaproofs/impl.groups"], apart := false, laid := [("loop.example/sigmaproofs/impl.groups", laid_loop_example_sigmaproofs_impl_groups)] }
def FnGroupBaseSaid : Prop := fnGroupBaseRow.holds Tryd.pinned (OpenSpec.ofChange fnGroupBaseSpec)

/-- ITS FALSE NEIGHBOUR: 'it returns false'. Refute it at one input. -/
def fnGroupBaseWrong : ChangeSpec := { name := "fnGroupBase", vars := ["loop.example/sigmaproofs/impl.groups"], fn := fun _ => fun
  | [d, g1] => { results := [.lit (.bool false)], args := [d], vars := [g1] }
  | _ => none }
def FnGroupBaseWrongFalsely : Prop := fnGroupBaseRow.holds Tryd.pinned (OpenSpec.ofChange fnGroupBaseWrong)

/-- 'laws.FnElementOk': WHATEVER THE INPUT: true; the input reads as it did. -/
def fnElementOkSpec : ChangeSpec := { name := "fnElementOk", vars := ["loop.example/sigmaproofs/impl.groups"], fn := fun _ => fun
  | [d, g1] => { results := [.lit (.bool true)], args := [d], vars := [g1] }
  | _ => none }
def fnElementOkRow : OpenClaim := { program := "ytjifldaohdddhaadoor", sum := "10c51666a24c9d6ce4044556a6ff3a5b25f4fc08f93a01044421316c1201a27e", func := "loop.example/sigmaproofs/laws.FnElementOk", spec := "fnElementOk", named := ["loop.example/sigmaproofs/impl.groups"], apart := false, laid := [("loop.example/sigmaproofs/impl.groups", laid_loop_example_sigmaproofs_impl_groups)] }
def FnElementOkSaid : Prop := fnElementOkRow.holds Tryd.pinned (OpenSpec.ofChange fnElementOkSpec)

/-- ITS FALSE NEIGHBOUR: 'it returns false'. Refute it at one input. -/
def fnElementOkWrong : ChangeSpec := { name := "fnElementOk", vars := ["loop.example/sigmaproofs/impl.groups"], fn := fun _ => fun
  | [d, g1] => { results := [.lit (.bool false)], args := [d], vars := [g1] }
  | _ => none }
def FnElementOkWrongFalsely : Prop := fnElementOkRow.holds Tryd.pinned (OpenSpec.ofChange fnElementOkWrong)

/-- 'laws.FnExponentOk': WHATEVER THE INPUT: true; the input reads as it did. -/
def fnExponentOkSpec : ChangeSpec := { name := "fnExponentOk", vars := ["loop.example/sigmaproofs/impl.groups"], fn := fun _ => fun
  | [d, g1] => { results := [.lit (.bool true)], args := [d], vars := [g1] }
  | _ => none }
def fnExponentOkRow : OpenClaim := { program := "ytjifldaohdddhaadoor", sum := "10c51666a24c9d6ce4044556a6ff3a5b25f4fc08f93a01044421316c1201a27e", func := "loop.example/sigmaproofs/laws.FnExponentOk", spec := "fnExponentOk", named := ["loop.example/sigmaproofs/impl.groups"], apart := false, laid := [("loop.example/sigmaproofs/impl.groups", laid_loop_example_sigmaproofs_impl_groups)] }
def FnExponentOkSaid : Prop := fnExponentOkRow.holds Tryd.pinned (OpenSpec.ofChange fnExponentOkSpec)

/-- ITS FALSE NEIGHBOUR: 'it returns false'. Refute it at one input. -/
def fnExponentOkWrong : ChangeSpec := { name := "fnExponentOk", vars := ["loop.example/sigmaproofs/impl.groups"], fn := fun _ => fun
  | [d, g1] => { results := [.lit (.bool false)], args := [d], vars := [g1] }
  | _ => none }
def FnExponentOkWrongFalsely : Prop := fnExponentOkRow.holds Tryd.pinned (OpenSpec.ofChange fnExponentOkWrong)

/-- 'laws.FnElementTimes': WHATEVER THE INPUT: true; the input reads as it did. -/
def fnElementTimesSpec : ChangeSpec := { name := "fnElementTimes", vars := ["loop.example/sigmaproofs/impl.groups"], fn := fun _ => fun
  | [d1, d2, g1] => { results := [.lit (.bool true)], args := [d1, d2], vars := [g1] }
  | _ => none }
def fnElementTimesRow : OpenClaim := { program := "ytjifldaohdddhaadoor", sum := "10c51666a24c9d6ce4044556a6ff3a5b25f4fc08f93a01044421316c1201a27e", func := "loop.example/sigmaproofs/laws.FnElementTimes", spec := "fnElementTimes", named := ["loop.example/sigmaproofs/impl.groups"], apart := false, laid := [("loop.example/sigmaproofs/impl.groups", laid_loop_example_sigmaproofs_impl_groups)] }
def FnElementTimesSaid : Prop := fnElementTimesRow.holds Tryd.pinned (OpenSpec.ofChange fnElementTimesSpec)

/-- ITS FALSE NEIGHBOUR: 'it returns false'. Refute it at one input. -/
def fnElementTimesWrong : ChangeSpec := { name := "fnElementTimes", vars := ["loop.example/sigmaproofs/impl.groups"], fn := fun _ => fun
  | [d1, d2, g1] => { results := [.lit (.bool false)], args := [d1, d2], vars := [g1] }
  | _ => none }
def FnElementTimesWrongFalsely : Prop := fnElementTimesRow.holds Tryd.pinned (OpenSpec.ofChange fnElementTimesWrong)

/-- 'laws.FnElementPower': WHATEVER THE INPUT: true; the input reads as it did. -/
def fnElementPowerSpec : ChangeSpec := { name := "fnElementPower", vars := ["loop.example/sigmaproofs/impl.groups"], fn := fun _ => fun
  | [d1, d2, g1] => { results := [.lit (.bool true)], args := [d1, d2], vars := [g1] }
  | _ => none }
def fnElementPowerRow : OpenClaim := { program := "ytjifldaohdddhaadoor", sum := "10c51666a24c9d6ce4044556a6ff3a5b25f4fc08f93a01044421316c1201a27e", func := "loop.example/sigmaproofs/laws.FnElementPower", spec := "fnElementPower", named := ["loop.example/sigmaproofs/impl.groups"], apart := false, laid := [("loop.example/sigmaproofs/impl.groups", laid_loop_example_sigmaproofs_impl_groups)] }
def FnElementPowerSaid : Prop := fnElementPowerRow.holds Tryd.pinned (OpenSpec.ofChange fnElementPowerSpec)

/-- ITS FALSE NEIGHBOUR: 'it returns false'. Refute it at one input. -/
def fnElementPowerWrong : ChangeSpec := { name := "fnElementPower", vars := ["loop.example/sigmaproofs/impl.groups"], fn := fun _ => fun
  | [d1, d2, g1] => { results := [.lit (.bool false)], args := [d1, d2], vars := [g1] }
  | _ => none }
def FnElementPowerWrongFalsely : Prop := fnElementPowerRow.holds Tryd.pinned (OpenSpec.ofChange fnElementPowerWrong)

/-- 'laws.FnElementsOf': WHATEVER THE INPUT: true; the input reads as it did. -/
def fnElementsOfSpec : ChangeSpec := { name := "fnElementsOf", vars := ["loop.example/sigmaproofs/impl.groups"], fn := fun _ => fun
  | [d, g1] => { results := [.lit (.bool true)], args := [d], vars := [g1] }
  | _ => none }
def fnElementsOfRow : OpenClaim := { program := "ytjifldaohdddhaadoor", sum := "10c51666a24c9d6ce4044556a6ff3a5b25f4fc08f93a01044421316c1201a27e", func := "loop.example/sigmaproofs/laws.FnElementsOf", spec := "fnElementsOf", named := ["loop.example/sigmaproofs/impl.groups"], apart := false, laid := [("loop.example/sigmaproofs/impl.groups", laid_loop_example_sigmaproofs_impl_groups)] }
def FnElementsOfSaid : Prop := fnElementsOfRow.holds Tryd.pinned (OpenSpec.ofChange fnElementsOfSpec)

/-- ITS FALSE NEIGHBOUR: 'it returns false'. Refute it at one input. -/
def fnElementsOfWrong : ChangeSpec := { name := "fnElementsOf", vars := ["loop.example/sigmaproofs/impl.groups"], fn := fun _ => fun
  | [d, g1] => { results := [.lit (.bool false)], args := [d], vars := [g1] }
  | _ => none }
def FnElementsOfWrongFalsely : Prop := fnElementsOfRow.holds Tryd.pinned (OpenSpec.ofChange fnElementsOfWrong)

/-- 'laws.FnLogOf': WHATEVER THE INPUT: true; the input reads as it did. -/
def fnLogOfSpec : ChangeSpec := { name := "fnLogOf", vars := ["loop.example/sigmaproofs/impl.groups"], fn := fun _ => fun
  | [d, g1] => { results := [.lit (.bool true)], args := [d], vars := [g1] }
  | _ => none }
def fnLogOfRow : OpenClaim := { program := "ytjifldaohdddhaadoor", sum := "10c51666a24c9d6ce4044556a6ff3a5b25f4fc08f93a01044421316c1201a27e", func := "loop.example/sigmaproofs/laws.FnLogOf", spec := "fnLogOf", named := ["loop.example/sigmaproofs/impl.groups"], apart := false, laid := [("loop.example/sigmaproofs/impl.groups", laid_loop_example_sigmaproofs_impl_groups)] }
def FnLogOfSaid : Prop := fnLogOfRow.holds Tryd.pinned (OpenSpec.ofChange fnLogOfSpec)

/-- ITS FALSE NEIGHBOUR: 'it returns false'. Refute it at one input. -/
def fnLogOfWrong : ChangeSpec := { name := "fnLogOf", vars := ["loop.example/sigmaproofs/impl.groups"], fn := fun _ => fun
  | [d, g1] => { results := [.lit (.bool false)], args := [d], vars := [g1] }
  | _ => none }
def FnLogOfWrongFalsely : Prop := fnLogOfRow.holds Tryd.pinned (OpenSpec.ofChange fnLogOfWrong)

/-- 'laws.FnExponentBack': WHATEVER THE INPUT: true; the input reads as it did. -/
def fnExponentBackSpec : ChangeSpec := { name := "fnExponentBack", vars := ["loop.example/sigmaproofs/impl.groups"], fn := fun _ => fun
  | [d, g1] => { results := [.lit (.bool true)], args := [d], vars := [g1] }
  | _ => none }
def fnExponentBackRow : OpenClaim := { program := "ytjifldaohdddhaadoor", sum := "10c51666a24c9d6ce4044556a6ff3a5b25f4fc08f93a01044421316c1201a27e", func := "loop.example/sigmaproofs/laws.FnExponentBack", spec := "fnExponentBack", named := ["loop.example/sigmaproofs/impl.groups"], apart := false, laid := [("loop.example/sigmaproofs/impl.groups", laid_loop_example_sigmaproofs_impl_groups)] }
def FnExponentBackSaid : Prop := fnExponentBackRow.holds Tryd.pinned (OpenSpec.ofChange fnExponentBackSpec)

/-- ITS FALSE NEIGHBOUR: 'it returns false'. Refute it at one input. -/
def fnExponentBackWrong : ChangeSpec := { name := "fnExponentBack", vars := ["loop.example/sigmaproofs/impl.groups"], fn := fun _ => fun
  | [d, g1] => { results := [.lit (.bool false)], args := [d], vars := [g1] }
  | _ => none }
def FnExponentBackWrongFalsely : Prop := fnExponentBackRow.holds Tryd.pinned (OpenSpec.ofChange fnExponentBackWrong)

/- THE SECOND FORM. 'bulk': how many values and letters a reading holds, each counted each time it is reached (what is shared counts as often as it is met; a slice's spare places count too). A statement '..UptoSaid' is the law's where the arguments, and the package variables that the reading takes, are together of bulk at most 1048576: NARROWER than '..Said'. Prove '..Said' where nothing that the law and all that it calls make is longer than what came in: it says more and counts as full. Else prove '..UptoSaid'. A law counts once. -/
mutual
def uptoBulk {H : Type} : DataW H → Nat
  | .lit (.string bytes) => bytes.length + 1
  | .lit _ => 1
  | .nil => 1
  | .ptr d => uptoBulk d + 1
  | .slice elems spare => uptoBulkAll elems + uptoBulkAll spare + 1
  | .agg parts => uptoBulkAll parts + 1
  | .iface _ d => uptoBulk d + 1
  | .map entries => uptoBulkEntries entries + 1
  | .held _ => 1
def uptoBulkAll {H : Type} : List (DataW H) → Nat
  | [] => 0
  | d :: r => uptoBulk d + uptoBulkAll r
def uptoBulkEntries {H : Type} : List (Lit × DataW H) → Nat
  | [] => 0
  | x :: r => uptoBulkEntry x + uptoBulkEntries r
def uptoBulkEntry {H : Type} : Lit × DataW H → Nat
  | (.string bytes, d) => bytes.length + uptoBulk d + 1
  | (_, d) => uptoBulk d + 1
 end
def uptoSmall : (H : Type) → List (DataW H) → Bool := fun _ ds => decide (uptoBulkAll ds ≤ 1048576)
def OpenSpec.upto (s : _root_.Go.ChangeSpec) : _root_.Go.OpenSpec := { _root_.Go.OpenSpec.ofChange s with cond := some uptoSmall }

/-- 'laws.FnGroupPrime', WHERE WHAT IT READS IS OF BULK AT MOST 1048576: true; the input reads as it did. -/
def fnGroupPrimeUptoRow : OpenClaim := { program := "ytjifldaohdddhaadoor", sum := "10c51666a24c9d6ce4044556a6ff3a5b25f4fc08f93a01044421316c1201a27e", func := "loop.example/sigmaproofs/laws.FnGroupPrime", spec := "fnGroupPrime", named := ["loop.example/sigmaproofs/impl.groups"], apart := false, laid := [("loop.example/sigmaproofs/impl.groups", laid_loop_example_sigmaproofs_impl_groups)], narrowed := true }
def FnGroupPrimeUptoSaid : Prop := fnGroupPrimeUptoRow.holds Tryd.pinned (OpenSpec.upto fnGroupPrimeSpec)

/-- 'laws.FnGroupOrder', WHERE WHAT IT READS IS OF BULK AT MOST 1048576: true; the input reads as it did. -/
def fnGroupOrderUptoRow : OpenClaim := { program := "ytjifldaohdddhaadoor", sum := "10c51666a24c9d6ce4044556a6ff3a5b25f4fc08f93a01044421316c1201a27e", func := "loop.example/sigmaproofs/laws.FnGroupOrder", spec := "fnGroupOrder", named := ["loop.example/sigmaproofs/impl.groups"], apart := false, laid := [("loop.example/sigmaproofs/impl.groups", laid_loop_example_sigmaproofs_impl_groups)], narrowed := true }
def FnGroupOrderUptoSaid : Prop := fnGroupOrderUptoRow.holds Tryd.pinned (OpenSpec.upto fnGroupOrderSpec)

/-- 'laws.FnGroupBase', WHERE WHAT IT READS IS OF BULK AT MOST 1048576: true; the input reads as it did. -/
def fnGroupBaseUptoRow : OpenClaim := { program := "ytjifldaohdddhaadoor", sum := "10c51666a24c9d6ce4044556a6ff3a5b25f4fc08f93a01044421316c1201a27e", func := "loop.example/sigmaproofs/laws.FnGroupBase", spec := "fnGroupBase", named := ["loop.example/sigmaproofs/impl.groups"], apart := false, laid := [("loop.example/sigmaproofs/impl.groups", laid_loop_example_sigmaproofs_impl_groups)], narrowed := true }
def FnGroupBaseUptoSaid : Prop := fnGroupBaseUptoRow.holds Tryd.pinned (OpenSpec.upto fnGroupBaseSpec)

/-- 'laws.FnElementOk', WHERE WHAT IT READS IS OF BULK AT MOST 1048576: true; the input reads as it did. -/
def fnElementOkUptoRow : OpenClaim := { program := "ytjifldaohdddhaadoor", sum := "10c51666a24c9d6ce4044556a6ff3a5b25f4fc08f93a01044421316c1201a27e", func := "loop.example/sigmaproofs/laws.FnElementOk", spec := "fnElementOk", named := ["loop.example/sigmaproofs/impl.groups"], apart := false, laid := [("loop.example/sigmaproofs/impl.groups", laid_loop_example_sigmaproofs_impl_groups)], narrowed := true }
def FnElementOkUptoSaid : Prop := fnElementOkUptoRow.holds Tryd.pinned (OpenSpec.upto fnElementOkSpec)

/-- 'laws.FnExponentOk', WHERE WHAT IT READS IS OF BULK AT MOST 1048576: true; the input reads as it did. -/
def fnExponentOkUptoRow : OpenClaim := { program := "ytjifldaohdddhaadoor", sum := "10c51666a24c9d6ce4044556a6ff3a5b25f4fc08f93a01044421316c1201a27e", func := "loop.example/sigmaproofs/laws.FnExponentOk", spec := "fnExponentOk", named := ["loop.example/sigmaproofs/impl.groups"], apart := false, laid := [("loop.example/sigmaproofs/impl.groups", laid_loop_example_sigmaproofs_impl_groups)], narrowed := true }
def FnExponentOkUptoSaid : Prop := fnExponentOkUptoRow.holds Tryd.pinned (OpenSpec.upto fnExponentOkSpec)

/-- 'laws.FnElementTimes', WHERE WHAT IT READS IS OF BULK AT MOST 1048576: true; the input reads as it did. -/
def fnElementTimesUptoRow : OpenClaim := { program := "ytjifldaohdddhaadoor", sum := "10c51666a24c9d6ce4044556a6ff3a5b25f4fc08f93a01044421316c1201a27e", func := "loop.example/sigmaproofs/laws.FnElementTimes", spec := "fnElementTimes", named := ["loop.example/sigmaproofs/impl.groups"], apart := false, laid := [("loop.example/sigmaproofs/impl.groups", laid_loop_example_sigmaproofs_impl_groups)], narrowed := true }
def FnElementTimesUptoSaid : Prop := fnElementTimesUptoRow.holds Tryd.pinned (OpenSpec.upto fnElementTimesSpec)

/-- 'laws.FnElementPower', WHERE WHAT IT READS IS OF BULK AT MOST 1048576: true; the input reads as it did. -/
def fnElementPowerUptoRow : OpenClaim := { program := "ytjifldaohdddhaadoor", sum := "10c51666a24c9d6ce4044556a6ff3a5b25f4fc08f93a01044421316c1201a27e", func := "loop.example/sigmaproofs/laws.FnElementPower", spec := "fnElementPower", named := ["loop.example/sigmaproofs/impl.groups"], apart := false, laid := [("loop.example/sigmaproofs/impl.groups", laid_loop_example_sigmaproofs_impl_groups)], narrowed := true }
def FnElementPowerUptoSaid : Prop := fnElementPowerUptoRow.holds Tryd.pinned (OpenSpec.upto fnElementPowerSpec)

/-- 'laws.FnElementsOf', WHERE WHAT IT READS IS OF BULK AT MOST 1048576: true; the input reads as it did. -/
def fnElementsOfUptoRow : OpenClaim := { program := "ytjifldaohdddhaadoor", sum := "10c51666a24c9d6ce4044556a6ff3a5b25f4fc08f93a01044421316c1201a27e", func := "loop.example/sigmaproofs/laws.FnElementsOf", spec := "fnElementsOf", named := ["loop.example/sigmaproofs/impl.groups"], apart := false, laid := [("loop.example/sigmaproofs/impl.groups", laid_loop_example_sigmaproofs_impl_groups)], narrowed := true }
def FnElementsOfUptoSaid : Prop := fnElementsOfUptoRow.holds Tryd.pinned (OpenSpec.upto fnElementsOfSpec)

/-- 'laws.FnLogOf', WHERE WHAT IT READS IS OF BULK AT MOST 1048576: true; the input reads as it did. -/
def fnLogOfUptoRow : OpenClaim := { program := "ytjifldaohdddhaadoor", sum := "10c51666a24c9d6ce4044556a6ff3a5b25f4fc08f93a01044421316c1201a27e", func := "loop.example/sigmaproofs/laws.FnLogOf", spec := "fnLogOf", named := ["loop.example/sigmaproofs/impl.groups"], apart := false, laid := [("loop.example/sigmaproofs/impl.groups", laid_loop_example_sigmaproofs_impl_groups)], narrowed := true }
def FnLogOfUptoSaid : Prop := fnLogOfUptoRow.holds Tryd.pinned (OpenSpec.upto fnLogOfSpec)

/-- 'laws.FnExponentBack', WHERE WHAT IT READS IS OF BULK AT MOST 1048576: true; the input reads as it did. -/
def fnExponentBackUptoRow : OpenClaim := { program := "ytjifldaohdddhaadoor", sum := "10c51666a24c9d6ce4044556a6ff3a5b25f4fc08f93a01044421316c1201a27e", func := "loop.example/sigmaproofs/laws.FnExponentBack", spec := "fnExponentBack", named := ["loop.example/sigmaproofs/impl.groups"], apart := false, laid := [("loop.example/sigmaproofs/impl.groups", laid_loop_example_sigmaproofs_impl_groups)], narrowed := true }
def FnExponentBackUptoSaid : Prop := fnExponentBackUptoRow.holds Tryd.pinned (OpenSpec.upto fnExponentBackSpec)

end Rows
end Go.Proofs.YtjifldaohdddhaaDoor
