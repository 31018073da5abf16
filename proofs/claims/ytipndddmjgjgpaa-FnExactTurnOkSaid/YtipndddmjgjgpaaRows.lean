/-
  No cell of these rows narrows 'for every input' (looked for: loops, veiled, ifaces, maps, wideKeys, modest, calm, conditions, laid).
  DERIVED. THE GIVEN ROWS OF THIS SEAT. 11 by the template 'for every input the law returns true; each argument reads behind the call as it read before'; 0 by the template 'total and deterministic' (their statements: YtipndddmjgjgpaaTotals.lean).
  GIVEN WITH THE SEED: the statements are not yours to turn. If you find one false, say at which input.
  Laid BY PROGRAM, IN A SANDBOX (cutbox-rows.mjs): the forced cells as the released guide's own fill.sh prints them over the translation 685d22dfe5915cab… (all of the seat's roots in one cut). By AI agents, Wed Nov 11 2026. No macro, syntax, notation, axiom, sorry.
-/
import Derived.Test.YtipndddmjgjgpaaChecked
import GoSem.Claim
import GoSem.ClaimJoined
import GoSem.ClaimMapViews
import Derived.JoinedTies
import Derived.KernelRfl
namespace Go.Proofs.Ytipndddmjgjgpaa
/- THE CELL 'sum', in the pinned program and in every row, IS THE sha256 OF THE DUMP (.gsa) THAT YtipndddmjgjgpaaProg.lean LOADS. Nothing in Lean hashes anything: it is a label: what it is worth is what the hold of that sum in a sandbox is worth. -/
noncomputable def Try.pinned : Pinned := { name := "ytipndddmjgjgpaa", sum := "685d22dfe5915cab9f8805ce31f8236f123fea3cd5b67fe559ff90763f2ac592", checked := Try.checked }
namespace Rows
def none {H : Type} : Left H := { results := [], args := [] }

/-- 'laws.FnExactGraphOk': WHATEVER THE INPUT: true; the input reads as it did. -/
def fnExactGraphOkSpec : ChangeSpec := { name := "fnExactGraphOk", fn := fun _ => fun
  | [d] => { results := [.lit (.bool true)], args := [d] }
  | _ => none }
def fnExactGraphOkRow : OpenClaim := { program := "ytipndddmjgjgpaa", sum := "685d22dfe5915cab9f8805ce31f8236f123fea3cd5b67fe559ff90763f2ac592", func := "loop.example/sigmaproofs/laws.FnExactGraphOk", spec := "fnExactGraphOk", apart := false }
def FnExactGraphOkSaid : Prop := fnExactGraphOkRow.holds Try.pinned (OpenSpec.ofChange fnExactGraphOkSpec)

/-- ITS FALSE NEIGHBOUR: 'it returns false'. Refute it at one input. -/
def fnExactGraphOkWrong : ChangeSpec := { name := "fnExactGraphOk", fn := fun _ => fun
  | [d] => { results := [.lit (.bool false)], args := [d] }
  | _ => none }
def FnExactGraphOkWrongFalsely : Prop := fnExactGraphOkRow.holds Try.pinned (OpenSpec.ofChange fnExactGraphOkWrong)

/-- 'laws.FnExactOrderOk': WHATEVER THE INPUT: true; the input reads as it did. -/
def fnExactOrderOkSpec : ChangeSpec := { name := "fnExactOrderOk", fn := fun _ => fun
  | [d1, d2] => { results := [.lit (.bool true)], args := [d1, d2] }
  | _ => none }
def fnExactOrderOkRow : OpenClaim := { program := "ytipndddmjgjgpaa", sum := "685d22dfe5915cab9f8805ce31f8236f123fea3cd5b67fe559ff90763f2ac592", func := "loop.example/sigmaproofs/laws.FnExactOrderOk", spec := "fnExactOrderOk", apart := false }
def FnExactOrderOkSaid : Prop := fnExactOrderOkRow.holds Try.pinned (OpenSpec.ofChange fnExactOrderOkSpec)

/-- ITS FALSE NEIGHBOUR: 'it returns false'. Refute it at one input. -/
def fnExactOrderOkWrong : ChangeSpec := { name := "fnExactOrderOk", fn := fun _ => fun
  | [d1, d2] => { results := [.lit (.bool false)], args := [d1, d2] }
  | _ => none }
def FnExactOrderOkWrongFalsely : Prop := fnExactOrderOkRow.holds Try.pinned (OpenSpec.ofChange fnExactOrderOkWrong)

/-- 'laws.FnExactGraphMoved': WHATEVER THE INPUT: true; the input reads as it did. -/
def fnExactGraphMovedSpec : ChangeSpec := { name := "fnExactGraphMoved", fn := fun _ => fun
  | [d1, d2] => { results := [.lit (.bool true)], args := [d1, d2] }
  | _ => none }
def fnExactGraphMovedRow : OpenClaim := { program := "ytipndddmjgjgpaa", sum := "685d22dfe5915cab9f8805ce31f8236f123fea3cd5b67fe559ff90763f2ac592", func := "loop.example/sigmaproofs/laws.FnExactGraphMoved", spec := "fnExactGraphMoved", recurses := true, apart := false }
def FnExactGraphMovedSaid : Prop := fnExactGraphMovedRow.holds Try.pinned (OpenSpec.ofChange fnExactGraphMovedSpec)

/-- ITS FALSE NEIGHBOUR: 'it returns false'. Refute it at one input. -/
def fnExactGraphMovedWrong : ChangeSpec := { name := "fnExactGraphMoved", fn := fun _ => fun
  | [d1, d2] => { results := [.lit (.bool false)], args := [d1, d2] }
  | _ => none }
def FnExactGraphMovedWrongFalsely : Prop := fnExactGraphMovedRow.holds Try.pinned (OpenSpec.ofChange fnExactGraphMovedWrong)

/-- 'laws.FnExactOrderThen': WHATEVER THE INPUT: true; the input reads as it did. -/
def fnExactOrderThenSpec : ChangeSpec := { name := "fnExactOrderThen", fn := fun _ => fun
  | [d1, d2] => { results := [.lit (.bool true)], args := [d1, d2] }
  | _ => none }
def fnExactOrderThenRow : OpenClaim := { program := "ytipndddmjgjgpaa", sum := "685d22dfe5915cab9f8805ce31f8236f123fea3cd5b67fe559ff90763f2ac592", func := "loop.example/sigmaproofs/laws.FnExactOrderThen", spec := "fnExactOrderThen", apart := false }
def FnExactOrderThenSaid : Prop := fnExactOrderThenRow.holds Try.pinned (OpenSpec.ofChange fnExactOrderThenSpec)

/-- ITS FALSE NEIGHBOUR: 'it returns false'. Refute it at one input. -/
def fnExactOrderThenWrong : ChangeSpec := { name := "fnExactOrderThen", fn := fun _ => fun
  | [d1, d2] => { results := [.lit (.bool false)], args := [d1, d2] }
  | _ => none }
def FnExactOrderThenWrongFalsely : Prop := fnExactOrderThenRow.holds Try.pinned (OpenSpec.ofChange fnExactOrderThenWrong)

/-- 'laws.FnExactOrderBack': WHATEVER THE INPUT: true; the input reads as it did. -/
def fnExactOrderBackSpec : ChangeSpec := { name := "fnExactOrderBack", fn := fun _ => fun
  | [d] => { results := [.lit (.bool true)], args := [d] }
  | _ => none }
def fnExactOrderBackRow : OpenClaim := { program := "ytipndddmjgjgpaa", sum := "685d22dfe5915cab9f8805ce31f8236f123fea3cd5b67fe559ff90763f2ac592", func := "loop.example/sigmaproofs/laws.FnExactOrderBack", spec := "fnExactOrderBack", apart := false }
def FnExactOrderBackSaid : Prop := fnExactOrderBackRow.holds Try.pinned (OpenSpec.ofChange fnExactOrderBackSpec)

/-- ITS FALSE NEIGHBOUR: 'it returns false'. Refute it at one input. -/
def fnExactOrderBackWrong : ChangeSpec := { name := "fnExactOrderBack", fn := fun _ => fun
  | [d] => { results := [.lit (.bool false)], args := [d] }
  | _ => none }
def FnExactOrderBackWrongFalsely : Prop := fnExactOrderBackRow.holds Try.pinned (OpenSpec.ofChange fnExactOrderBackWrong)

/-- 'laws.FnExactOrdersBetween': WHATEVER THE INPUT: true; the input reads as it did. -/
def fnExactOrdersBetweenSpec : ChangeSpec := { name := "fnExactOrdersBetween", fn := fun _ => fun
  | [d1, d2] => { results := [.lit (.bool true)], args := [d1, d2] }
  | _ => none }
def fnExactOrdersBetweenRow : OpenClaim := { program := "ytipndddmjgjgpaa", sum := "685d22dfe5915cab9f8805ce31f8236f123fea3cd5b67fe559ff90763f2ac592", func := "loop.example/sigmaproofs/laws.FnExactOrdersBetween", spec := "fnExactOrdersBetween", unfollowed := true, recurses := true, apart := false }
def FnExactOrdersBetweenSaid : Prop := fnExactOrdersBetweenRow.holds Try.pinned (OpenSpec.ofChange fnExactOrdersBetweenSpec)

/-- ITS FALSE NEIGHBOUR: 'it returns false'. Refute it at one input. -/
def fnExactOrdersBetweenWrong : ChangeSpec := { name := "fnExactOrdersBetween", fn := fun _ => fun
  | [d1, d2] => { results := [.lit (.bool false)], args := [d1, d2] }
  | _ => none }
def FnExactOrdersBetweenWrongFalsely : Prop := fnExactOrdersBetweenRow.holds Try.pinned (OpenSpec.ofChange fnExactOrdersBetweenWrong)

/-- 'laws.FnExactTurnOk': WHATEVER THE INPUT: true; the input reads as it did. -/
def fnExactTurnOkSpec : ChangeSpec := { name := "fnExactTurnOk", fn := fun _ => fun
  | [d1, d2, d3] => { results := [.lit (.bool true)], args := [d1, d2, d3] }
  | _ => none }
def fnExactTurnOkRow : OpenClaim := { program := "ytipndddmjgjgpaa", sum := "685d22dfe5915cab9f8805ce31f8236f123fea3cd5b67fe559ff90763f2ac592", func := "loop.example/sigmaproofs/laws.FnExactTurnOk", spec := "fnExactTurnOk", recurses := true, apart := false }
def FnExactTurnOkSaid : Prop := fnExactTurnOkRow.holds Try.pinned (OpenSpec.ofChange fnExactTurnOkSpec)

/-- ITS FALSE NEIGHBOUR: 'it returns false'. Refute it at one input. -/
def fnExactTurnOkWrong : ChangeSpec := { name := "fnExactTurnOk", fn := fun _ => fun
  | [d1, d2, d3] => { results := [.lit (.bool false)], args := [d1, d2, d3] }
  | _ => none }
def FnExactTurnOkWrongFalsely : Prop := fnExactTurnOkRow.holds Try.pinned (OpenSpec.ofChange fnExactTurnOkWrong)

/-- 'laws.FnExactTurnOf': WHATEVER THE INPUT: true; the input reads as it did. -/
def fnExactTurnOfSpec : ChangeSpec := { name := "fnExactTurnOf", fn := fun _ => fun
  | [d1, d2, d3, d4, d5] => { results := [.lit (.bool true)], args := [d1, d2, d3, d4, d5] }
  | _ => none }
def fnExactTurnOfRow : OpenClaim := { program := "ytipndddmjgjgpaa", sum := "685d22dfe5915cab9f8805ce31f8236f123fea3cd5b67fe559ff90763f2ac592", func := "loop.example/sigmaproofs/laws.FnExactTurnOf", spec := "fnExactTurnOf", recurses := true, apart := false }
def FnExactTurnOfSaid : Prop := fnExactTurnOfRow.holds Try.pinned (OpenSpec.ofChange fnExactTurnOfSpec)

/-- ITS FALSE NEIGHBOUR: 'it returns false'. Refute it at one input. -/
def fnExactTurnOfWrong : ChangeSpec := { name := "fnExactTurnOf", fn := fun _ => fun
  | [d1, d2, d3, d4, d5] => { results := [.lit (.bool false)], args := [d1, d2, d3, d4, d5] }
  | _ => none }
def FnExactTurnOfWrongFalsely : Prop := fnExactTurnOfRow.holds Try.pinned (OpenSpec.ofChange fnExactTurnOfWrong)

/-- 'laws.FnExactTurnMade': WHATEVER THE INPUT: true; the input reads as it did. -/
def fnExactTurnMadeSpec : ChangeSpec := { name := "fnExactTurnMade", fn := fun _ => fun
  | [d1, d2, d3, d4] => { results := [.lit (.bool true)], args := [d1, d2, d3, d4] }
  | _ => none }
def fnExactTurnMadeRow : OpenClaim := { program := "ytipndddmjgjgpaa", sum := "685d22dfe5915cab9f8805ce31f8236f123fea3cd5b67fe559ff90763f2ac592", func := "loop.example/sigmaproofs/laws.FnExactTurnMade", spec := "fnExactTurnMade", recurses := true, apart := false }
def FnExactTurnMadeSaid : Prop := fnExactTurnMadeRow.holds Try.pinned (OpenSpec.ofChange fnExactTurnMadeSpec)

/-- ITS FALSE NEIGHBOUR: 'it returns false'. Refute it at one input. -/
def fnExactTurnMadeWrong : ChangeSpec := { name := "fnExactTurnMade", fn := fun _ => fun
  | [d1, d2, d3, d4] => { results := [.lit (.bool false)], args := [d1, d2, d3, d4] }
  | _ => none }
def FnExactTurnMadeWrongFalsely : Prop := fnExactTurnMadeRow.holds Try.pinned (OpenSpec.ofChange fnExactTurnMadeWrong)

/-- 'laws.FnExactOrderFrom': WHATEVER THE INPUT: true; the input reads as it did. -/
def fnExactOrderFromSpec : ChangeSpec := { name := "fnExactOrderFrom", fn := fun _ => fun
  | [d1, d2, d3, d4] => { results := [.lit (.bool true)], args := [d1, d2, d3, d4] }
  | _ => none }
def fnExactOrderFromRow : OpenClaim := { program := "ytipndddmjgjgpaa", sum := "685d22dfe5915cab9f8805ce31f8236f123fea3cd5b67fe559ff90763f2ac592", func := "loop.example/sigmaproofs/laws.FnExactOrderFrom", spec := "fnExactOrderFrom", recurses := true, apart := false }
def FnExactOrderFromSaid : Prop := fnExactOrderFromRow.holds Try.pinned (OpenSpec.ofChange fnExactOrderFromSpec)

/-- ITS FALSE NEIGHBOUR: 'it returns false'. Refute it at one input. -/
def fnExactOrderFromWrong : ChangeSpec := { name := "fnExactOrderFrom", fn := fun _ => fun
  | [d1, d2, d3, d4] => { results := [.lit (.bool false)], args := [d1, d2, d3, d4] }
  | _ => none }
def FnExactOrderFromWrongFalsely : Prop := fnExactOrderFromRow.holds Try.pinned (OpenSpec.ofChange fnExactOrderFromWrong)

/-- 'laws.FnExactTurnTable': WHATEVER THE INPUT: true; the input reads as it did. -/
def fnExactTurnTableSpec : ChangeSpec := { name := "fnExactTurnTable", fn := fun _ => fun
  | [d1, d2, d3] => { results := [.lit (.bool true)], args := [d1, d2, d3] }
  | _ => none }
def fnExactTurnTableRow : OpenClaim := { program := "ytipndddmjgjgpaa", sum := "685d22dfe5915cab9f8805ce31f8236f123fea3cd5b67fe559ff90763f2ac592", func := "loop.example/sigmaproofs/laws.FnExactTurnTable", spec := "fnExactTurnTable", unfollowed := true, recurses := true, apart := false }
def FnExactTurnTableSaid : Prop := fnExactTurnTableRow.holds Try.pinned (OpenSpec.ofChange fnExactTurnTableSpec)

/-- ITS FALSE NEIGHBOUR: 'it returns false'. Refute it at one input. -/
def fnExactTurnTableWrong : ChangeSpec := { name := "fnExactTurnTable", fn := fun _ => fun
  | [d1, d2, d3] => { results := [.lit (.bool false)], args := [d1, d2, d3] }
  | _ => none }
def FnExactTurnTableWrongFalsely : Prop := fnExactTurnTableRow.holds Try.pinned (OpenSpec.ofChange fnExactTurnTableWrong)

/- THE SECOND FORM. 'bulk': how many values and letters a reading holds, each counted each time it is reached (what is shared counts as often as it is met; a slice's spare places count too). A statement '..UptoSaid' is the law's where the arguments, and the package variables that the reading takes, are together of bulk at most 1048576: NARROWER than '..Said'. Prove '..Said' where nothing that the law and all that it calls make is longer than what came in: it says more and counts as full. Else prove '..UptoSaid'. A law counts once. -/
mutual
def uptoBulk {H : Type} : DataW H → Nat
  | .lit (.string bytes) => bytes.length + 1
  | .lit _ => 1
  | .nil => 1
  | .ptr d => uptoBulk d + 1
  | .slice elems spare => uptoBulkAll elems + uptoBulkAll spare + 1
  | .agg parts => uptoBulkAll parts + 1
  | .iface _ d => uptoBulk d + 1
  | .map entries => uptoBulkEntries entries + 1
  | .held _ => 1
def uptoBulkAll {H : Type} : List (DataW H) → Nat
  | [] => 0
  | d :: r => uptoBulk d + uptoBulkAll r
def uptoBulkEntries {H : Type} : List (Lit × DataW H) → Nat
  | [] => 0
  | x :: r => uptoBulkEntry x + uptoBulkEntries r
def uptoBulkEntry {H : Type} : Lit × DataW H → Nat
  | (.string bytes, d) => bytes.length + uptoBulk d + 1
  | (_, d) => uptoBulk d + 1
 end
def uptoSmall : (H : Type) → List (DataW H) → Bool := fun _ ds => decide (uptoBulkAll ds ≤ 1048576)
def OpenSpec.upto (s : _root_.Go.ChangeSpec) : _root_.Go.OpenSpec := { _root_.Go.OpenSpec.ofChange s with cond := some uptoSmall }

/-- 'laws.FnExactGraphOk', WHERE WHAT IT READS IS OF BULK AT MOST 1048576: true; the input reads as it did. -/
def fnExactGraphOkUptoRow : OpenClaim := { program := "ytipndddmjgjgpaa", sum := "685d22dfe5915cab9f8805ce31f8236f123fea3cd5b67fe559ff90763f2ac592", func := "loop.example/sigmaproofs/laws.FnExactGraphOk", spec := "fnExactGraphOk", apart := false, narrowed := true }
def FnExactGraphOkUptoSaid : Prop := fnExactGraphOkUptoRow.holds Try.pinned (OpenSpec.upto fnExactGraphOkSpec)

/-- 'laws.FnExactOrderOk', WHERE WHAT IT READS IS OF BULK AT MOST 1048576: true; the input reads as it did. -/
def fnExactOrderOkUptoRow : OpenClaim := { program := "ytipndddmjgjgpaa", sum := "685d22dfe5915cab9f8805ce31f8236f123fea3cd5b67fe559ff90763f2ac592", func := "loop.example/sigmaproofs/laws.FnExactOrderOk", spec := "fnExactOrderOk", apart := false, narrowed := true }
def FnExactOrderOkUptoSaid : Prop := fnExactOrderOkUptoRow.holds Try.pinned (OpenSpec.upto fnExactOrderOkSpec)

/-- 'laws.FnExactGraphMoved', WHERE WHAT IT READS IS OF BULK AT MOST 1048576: true; the input reads as it did. -/
def fnExactGraphMovedUptoRow : OpenClaim := { program := "ytipndddmjgjgpaa", sum := "685d22dfe5915cab9f8805ce31f8236f123fea3cd5b67fe559ff90763f2ac592", func := "loop.example/sigmaproofs/laws.FnExactGraphMoved", spec := "fnExactGraphMoved", recurses := true, apart := false, narrowed := true }
def FnExactGraphMovedUptoSaid : Prop := fnExactGraphMovedUptoRow.holds Try.pinned (OpenSpec.upto fnExactGraphMovedSpec)

/-- 'laws.FnExactOrderThen', WHERE WHAT IT READS IS OF BULK AT MOST 1048576: true; the input reads as it did. -/
def fnExactOrderThenUptoRow : OpenClaim := { program := "ytipndddmjgjgpaa", sum := "685d22dfe5915cab9f8805ce31f8236f123fea3cd5b67fe559ff90763f2ac592", func := "loop.example/sigmaproofs/laws.FnExactOrderThen", spec := "fnExactOrderThen", apart := false, narrowed := true }
def FnExactOrderThenUptoSaid : Prop := fnExactOrderThenUptoRow.holds Try.pinned (OpenSpec.upto fnExactOrderThenSpec)

/-- 'laws.FnExactOrderBack', WHERE WHAT IT READS IS OF BULK AT MOST 1048576: true; the input reads as it did. -/
def fnExactOrderBackUptoRow : OpenClaim := { program := "ytipndddmjgjgpaa", sum := "685d22dfe5915cab9f8805ce31f8236f123fea3cd5b67fe559ff90763f2ac592", func := "loop.example/sigmaproofs/laws.FnExactOrderBack", spec := "fnExactOrderBack", apart := false, narrowed := true }
def FnExactOrderBackUptoSaid : Prop := fnExactOrderBackUptoRow.holds Try.pinned (OpenSpec.upto fnExactOrderBackSpec)

/-- 'laws.FnExactOrdersBetween', WHERE WHAT IT READS IS OF BULK AT MOST 1048576: true; the input reads as it did. -/
def fnExactOrdersBetweenUptoRow : OpenClaim := { program := "ytipndddmjgjgpaa", sum := "685d22dfe5915cab9f8805ce31f8236f123fea3cd5b67fe559ff90763f2ac592", func := "loop.example/sigmaproofs/laws.FnExactOrdersBetween", spec := "fnExactOrdersBetween", unfollowed := true, recurses := true, apart := false, narrowed := true }
def FnExactOrdersBetweenUptoSaid : Prop := fnExactOrdersBetweenUptoRow.holds Try.pinned (OpenSpec.upto fnExactOrdersBetweenSpec)

/-- 'laws.FnExactTurnOk', WHERE WHAT IT READS IS OF BULK AT MOST 1048576: true; the input reads as it did. -/
def fnExactTurnOkUptoRow : OpenClaim := { program := "ytipndddmjgjgpaa", sum := "685d22dfe5915cab9f8805ce31f8236f123fea3cd5b67fe559ff90763f2ac592", func := "loop.example/sigmaproofs/laws.FnExactTurnOk", spec := "fnExactTurnOk", recurses := true, apart := false, narrowed := true }
def FnExactTurnOkUptoSaid : Prop := fnExactTurnOkUptoRow.holds Try.pinned (OpenSpec.upto fnExactTurnOkSpec)

/-- 'laws.FnExactTurnOf', WHERE WHAT IT READS IS OF BULK AT MOST 1048576: true; the input reads as it did. -/
def fnExactTurnOfUptoRow : OpenClaim := { program := "ytipndddmjgjgpaa", sum := "685d22dfe5915cab9f8805ce31f8236f123fea3cd5b67fe559ff90763f2ac592", func := "loop.example/sigmaproofs/laws.FnExactTurnOf", spec := "fnExactTurnOf", recurses := true, apart := false, narrowed := true }
def FnExactTurnOfUptoSaid : Prop := fnExactTurnOfUptoRow.holds Try.pinned (OpenSpec.upto fnExactTurnOfSpec)

/-- 'laws.FnExactTurnMade', WHERE WHAT IT READS IS OF BULK AT MOST 1048576: true; the input reads as it did. -/
def fnExactTurnMadeUptoRow : OpenClaim := { program := "ytipndddmjgjgpaa", sum := "685d22dfe5915cab9f8805ce31f8236f123fea3cd5b67fe559ff90763f2ac592", func := "loop.example/sigmaproofs/laws.FnExactTurnMade", spec := "fnExactTurnMade", recurses := true, apart := false, narrowed := true }
def FnExactTurnMadeUptoSaid : Prop := fnExactTurnMadeUptoRow.holds Try.pinned (OpenSpec.upto fnExactTurnMadeSpec)

/-- 'laws.FnExactOrderFrom', WHERE WHAT IT READS IS OF BULK AT MOST 1048576: true; the input reads as it did. -/
def fnExactOrderFromUptoRow : OpenClaim := { program := "ytipndddmjgjgpaa", sum := "685d22dfe5915cab9f8805ce31f8236f123fea3cd5b67fe559ff90763f2ac592", func := "loop.example/sigmaproofs/laws.FnExactOrderFrom", spec := "fnExactOrderFrom", recurses := true, apart := false, narrowed := true }
def FnExactOrderFromUptoSaid : Prop := fnExactOrderFromUptoRow.holds Try.pinned (OpenSpec.upto fnExactOrderFromSpec)

/-- 'laws.FnExactTurnTable', WHERE WHAT IT READS IS OF BULK AT MOST 1048576: true; the input reads as it did. -/
def fnExactTurnTableUptoRow : OpenClaim := { program := "ytipndddmjgjgpaa", sum := "685d22dfe5915cab9f8805ce31f8236f123fea3cd5b67fe559ff90763f2ac592", func := "loop.example/sigmaproofs/laws.FnExactTurnTable", spec := "fnExactTurnTable", unfollowed := true, recurses := true, apart := false, narrowed := true }
def FnExactTurnTableUptoSaid : Prop := fnExactTurnTableUptoRow.holds Try.pinned (OpenSpec.upto fnExactTurnTableSpec)

end Rows
end Go.Proofs.Ytipndddmjgjgpaa
