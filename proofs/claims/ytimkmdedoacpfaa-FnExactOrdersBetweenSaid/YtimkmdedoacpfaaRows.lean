/-
  No cell of these rows narrows 'for every input' (looked for: loops, veiled, ifaces, maps, wideKeys, modest, calm, conditions, laid).
  DERIVED. THE GIVEN ROWS OF THIS SEAT. 12 by the template 'for every input the law returns true; each argument reads behind the call as it read before'; 0 by the template 'total and deterministic' (their statements: YtimkmdedoacpfaaTotals.lean).
  GIVEN WITH THE SEED: the statements are not yours to turn. If you find one false, say at which input.
  Laid BY PROGRAM, IN A SANDBOX (cutbox-rows.mjs): the forced cells as the released guide's own fill.sh prints them over the translation 410cf10d800f6a91… (all of the seat's roots in one cut). By AI agents, Wed Nov 11 2026. No macro, syntax, notation, axiom, sorry.
-/
import Derived.Test.YtimkmdedoacpfaaChecked
import GoSem.Claim
import GoSem.ClaimJoined
import GoSem.ClaimMapViews
import Derived.JoinedTies
import Derived.KernelRfl
namespace Go.Proofs.Ytimkmdedoacpfaa
/- THE CELL 'sum', in the pinned program and in every row, IS THE sha256 OF THE DUMP (.gsa) THAT YtimkmdedoacpfaaProg.lean LOADS. Nothing in Lean hashes anything: it is a label: what it is worth is what the hold of that sum in a sandbox is worth. -/
noncomputable def Try.pinned : Pinned := { name := "ytimkmdedoacpfaa", sum := "410cf10d800f6a915f03a4bb1018fe7ad0dfd50304accfc56aab82366c3a19b4", checked := Try.checked }
namespace Rows
def none {H : Type} : Left H := { results := [], args := [] }

/-- 'laws.FnExactFailsOf': WHATEVER THE INPUT: true; the input reads as it did. -/
def fnExactFailsOfSpec : ChangeSpec := { name := "fnExactFailsOf", fn := fun _ => fun
  | [d1, d2] => { results := [.lit (.bool true)], args := [d1, d2] }
  | _ => none }
def fnExactFailsOfRow : OpenClaim := { program := "ytimkmdedoacpfaa", sum := "410cf10d800f6a915f03a4bb1018fe7ad0dfd50304accfc56aab82366c3a19b4", func := "loop.example/sigmaproofs/laws.FnExactFailsOf", spec := "fnExactFailsOf", apart := false }
def FnExactFailsOfSaid : Prop := fnExactFailsOfRow.holds Try.pinned (OpenSpec.ofChange fnExactFailsOfSpec)

/-- ITS FALSE NEIGHBOUR: 'it returns false'. Refute it at one input. -/
def fnExactFailsOfWrong : ChangeSpec := { name := "fnExactFailsOf", fn := fun _ => fun
  | [d1, d2] => { results := [.lit (.bool false)], args := [d1, d2] }
  | _ => none }
def FnExactFailsOfWrongFalsely : Prop := fnExactFailsOfRow.holds Try.pinned (OpenSpec.ofChange fnExactFailsOfWrong)

/-- 'laws.FnExactColoured': WHATEVER THE INPUT: true; the input reads as it did. -/
def fnExactColouredSpec : ChangeSpec := { name := "fnExactColoured", fn := fun _ => fun
  | [d1, d2] => { results := [.lit (.bool true)], args := [d1, d2] }
  | _ => none }
def fnExactColouredRow : OpenClaim := { program := "ytimkmdedoacpfaa", sum := "410cf10d800f6a915f03a4bb1018fe7ad0dfd50304accfc56aab82366c3a19b4", func := "loop.example/sigmaproofs/laws.FnExactColoured", spec := "fnExactColoured", apart := false }
def FnExactColouredSaid : Prop := fnExactColouredRow.holds Try.pinned (OpenSpec.ofChange fnExactColouredSpec)

/-- ITS FALSE NEIGHBOUR: 'it returns false'. Refute it at one input. -/
def fnExactColouredWrong : ChangeSpec := { name := "fnExactColoured", fn := fun _ => fun
  | [d1, d2] => { results := [.lit (.bool false)], args := [d1, d2] }
  | _ => none }
def FnExactColouredWrongFalsely : Prop := fnExactColouredRow.holds Try.pinned (OpenSpec.ofChange fnExactColouredWrong)

/-- 'laws.FnExactColoursOf': WHATEVER THE INPUT: true; the input reads as it did. -/
def fnExactColoursOfSpec : ChangeSpec := { name := "fnExactColoursOf", fn := fun _ => fun
  | [d] => { results := [.lit (.bool true)], args := [d] }
  | _ => none }
def fnExactColoursOfRow : OpenClaim := { program := "ytimkmdedoacpfaa", sum := "410cf10d800f6a915f03a4bb1018fe7ad0dfd50304accfc56aab82366c3a19b4", func := "loop.example/sigmaproofs/laws.FnExactColoursOf", spec := "fnExactColoursOf", apart := false }
def FnExactColoursOfSaid : Prop := fnExactColoursOfRow.holds Try.pinned (OpenSpec.ofChange fnExactColoursOfSpec)

/-- ITS FALSE NEIGHBOUR: 'it returns false'. Refute it at one input. -/
def fnExactColoursOfWrong : ChangeSpec := { name := "fnExactColoursOf", fn := fun _ => fun
  | [d] => { results := [.lit (.bool false)], args := [d] }
  | _ => none }
def FnExactColoursOfWrongFalsely : Prop := fnExactColoursOfRow.holds Try.pinned (OpenSpec.ofChange fnExactColoursOfWrong)

/-- 'laws.FnExactPainted': WHATEVER THE INPUT: true; the input reads as it did. -/
def fnExactPaintedSpec : ChangeSpec := { name := "fnExactPainted", fn := fun _ => fun
  | [d1, d2, d3] => { results := [.lit (.bool true)], args := [d1, d2, d3] }
  | _ => none }
def fnExactPaintedRow : OpenClaim := { program := "ytimkmdedoacpfaa", sum := "410cf10d800f6a915f03a4bb1018fe7ad0dfd50304accfc56aab82366c3a19b4", func := "loop.example/sigmaproofs/laws.FnExactPainted", spec := "fnExactPainted", apart := false }
def FnExactPaintedSaid : Prop := fnExactPaintedRow.holds Try.pinned (OpenSpec.ofChange fnExactPaintedSpec)

/-- ITS FALSE NEIGHBOUR: 'it returns false'. Refute it at one input. -/
def fnExactPaintedWrong : ChangeSpec := { name := "fnExactPainted", fn := fun _ => fun
  | [d1, d2, d3] => { results := [.lit (.bool false)], args := [d1, d2, d3] }
  | _ => none }
def FnExactPaintedWrongFalsely : Prop := fnExactPaintedRow.holds Try.pinned (OpenSpec.ofChange fnExactPaintedWrong)

/-- 'laws.FnExactViewsOf': WHATEVER THE INPUT: true; the input reads as it did. -/
def fnExactViewsOfSpec : ChangeSpec := { name := "fnExactViewsOf", fn := fun _ => fun
  | [d1, d2, d3] => { results := [.lit (.bool true)], args := [d1, d2, d3] }
  | _ => none }
def fnExactViewsOfRow : OpenClaim := { program := "ytimkmdedoacpfaa", sum := "410cf10d800f6a915f03a4bb1018fe7ad0dfd50304accfc56aab82366c3a19b4", func := "loop.example/sigmaproofs/laws.FnExactViewsOf", spec := "fnExactViewsOf", unfollowed := true, recurses := true, apart := false }
def FnExactViewsOfSaid : Prop := fnExactViewsOfRow.holds Try.pinned (OpenSpec.ofChange fnExactViewsOfSpec)

/-- ITS FALSE NEIGHBOUR: 'it returns false'. Refute it at one input. -/
def fnExactViewsOfWrong : ChangeSpec := { name := "fnExactViewsOf", fn := fun _ => fun
  | [d1, d2, d3] => { results := [.lit (.bool false)], args := [d1, d2, d3] }
  | _ => none }
def FnExactViewsOfWrongFalsely : Prop := fnExactViewsOfRow.holds Try.pinned (OpenSpec.ofChange fnExactViewsOfWrong)

/-- 'laws.FnExactViewsMade': WHATEVER THE INPUT: true; the input reads as it did. -/
def fnExactViewsMadeSpec : ChangeSpec := { name := "fnExactViewsMade", fn := fun _ => fun
  | [d] => { results := [.lit (.bool true)], args := [d] }
  | _ => none }
def fnExactViewsMadeRow : OpenClaim := { program := "ytimkmdedoacpfaa", sum := "410cf10d800f6a915f03a4bb1018fe7ad0dfd50304accfc56aab82366c3a19b4", func := "loop.example/sigmaproofs/laws.FnExactViewsMade", spec := "fnExactViewsMade", apart := false }
def FnExactViewsMadeSaid : Prop := fnExactViewsMadeRow.holds Try.pinned (OpenSpec.ofChange fnExactViewsMadeSpec)

/-- ITS FALSE NEIGHBOUR: 'it returns false'. Refute it at one input. -/
def fnExactViewsMadeWrong : ChangeSpec := { name := "fnExactViewsMade", fn := fun _ => fun
  | [d] => { results := [.lit (.bool false)], args := [d] }
  | _ => none }
def FnExactViewsMadeWrongFalsely : Prop := fnExactViewsMadeRow.holds Try.pinned (OpenSpec.ofChange fnExactViewsMadeWrong)

/-- 'laws.FnExactBestCheat': WHATEVER THE INPUT: true; the input reads as it did. -/
def fnExactBestCheatSpec : ChangeSpec := { name := "fnExactBestCheat", fn := fun _ => fun
  | [d] => { results := [.lit (.bool true)], args := [d] }
  | _ => none }
def fnExactBestCheatRow : OpenClaim := { program := "ytimkmdedoacpfaa", sum := "410cf10d800f6a915f03a4bb1018fe7ad0dfd50304accfc56aab82366c3a19b4", func := "loop.example/sigmaproofs/laws.FnExactBestCheat", spec := "fnExactBestCheat", apart := false }
def FnExactBestCheatSaid : Prop := fnExactBestCheatRow.holds Try.pinned (OpenSpec.ofChange fnExactBestCheatSpec)

/-- ITS FALSE NEIGHBOUR: 'it returns false'. Refute it at one input. -/
def fnExactBestCheatWrong : ChangeSpec := { name := "fnExactBestCheat", fn := fun _ => fun
  | [d] => { results := [.lit (.bool false)], args := [d] }
  | _ => none }
def FnExactBestCheatWrongFalsely : Prop := fnExactBestCheatRow.holds Try.pinned (OpenSpec.ofChange fnExactBestCheatWrong)

/-- 'laws.FnExactFoundOut': WHATEVER THE INPUT: true; the input reads as it did. -/
def fnExactFoundOutSpec : ChangeSpec := { name := "fnExactFoundOut", fn := fun _ => fun
  | [d1, d2] => { results := [.lit (.bool true)], args := [d1, d2] }
  | _ => none }
def fnExactFoundOutRow : OpenClaim := { program := "ytimkmdedoacpfaa", sum := "410cf10d800f6a915f03a4bb1018fe7ad0dfd50304accfc56aab82366c3a19b4", func := "loop.example/sigmaproofs/laws.FnExactFoundOut", spec := "fnExactFoundOut", apart := false }
def FnExactFoundOutSaid : Prop := fnExactFoundOutRow.holds Try.pinned (OpenSpec.ofChange fnExactFoundOutSpec)

/-- ITS FALSE NEIGHBOUR: 'it returns false'. Refute it at one input. -/
def fnExactFoundOutWrong : ChangeSpec := { name := "fnExactFoundOut", fn := fun _ => fun
  | [d1, d2] => { results := [.lit (.bool false)], args := [d1, d2] }
  | _ => none }
def FnExactFoundOutWrongFalsely : Prop := fnExactFoundOutRow.holds Try.pinned (OpenSpec.ofChange fnExactFoundOutWrong)

/-- 'laws.FnExactOrdersBetween': WHATEVER THE INPUT: true; the input reads as it did. -/
def fnExactOrdersBetweenSpec : ChangeSpec := { name := "fnExactOrdersBetween", fn := fun _ => fun
  | [d1, d2] => { results := [.lit (.bool true)], args := [d1, d2] }
  | _ => none }
def fnExactOrdersBetweenRow : OpenClaim := { program := "ytimkmdedoacpfaa", sum := "410cf10d800f6a915f03a4bb1018fe7ad0dfd50304accfc56aab82366c3a19b4", func := "loop.example/sigmaproofs/laws.FnExactOrdersBetween", spec := "fnExactOrdersBetween", unfollowed := true, recurses := true, apart := false }
def FnExactOrdersBetweenSaid : Prop := fnExactOrdersBetweenRow.holds Try.pinned (OpenSpec.ofChange fnExactOrdersBetweenSpec)

/-- ITS FALSE NEIGHBOUR: 'it returns false'. Refute it at one input. -/
def fnExactOrdersBetweenWrong : ChangeSpec := { name := "fnExactOrdersBetween", fn := fun _ => fun
  | [d1, d2] => { results := [.lit (.bool false)], args := [d1, d2] }
  | _ => none }
def FnExactOrdersBetweenWrongFalsely : Prop := fnExactOrdersBetweenRow.holds Try.pinned (OpenSpec.ofChange fnExactOrdersBetweenWrong)

/-- 'laws.FnExactTurnTable': WHATEVER THE INPUT: true; the input reads as it did. -/
def fnExactTurnTableSpec : ChangeSpec := { name := "fnExactTurnTable", fn := fun _ => fun
  | [d1, d2, d3] => { results := [.lit (.bool true)], args := [d1, d2, d3] }
  | _ => none }
def fnExactTurnTableRow : OpenClaim := { program := "ytimkmdedoacpfaa", sum := "410cf10d800f6a915f03a4bb1018fe7ad0dfd50304accfc56aab82366c3a19b4", func := "loop.example/sigmaproofs/laws.FnExactTurnTable", spec := "fnExactTurnTable", unfollowed := true, recurses := true, apart := false }
def FnExactTurnTableSaid : Prop := fnExactTurnTableRow.holds Try.pinned (OpenSpec.ofChange fnExactTurnTableSpec)

/-- ITS FALSE NEIGHBOUR: 'it returns false'. Refute it at one input. -/
def fnExactTurnTableWrong : ChangeSpec := { name := "fnExactTurnTable", fn := fun _ => fun
  | [d1, d2, d3] => { results := [.lit (.bool false)], args := [d1, d2, d3] }
  | _ => none }
def FnExactTurnTableWrongFalsely : Prop := fnExactTurnTableRow.holds Try.pinned (OpenSpec.ofChange fnExactTurnTableWrong)

/-- 'laws.FnExactOrderOk': WHATEVER THE INPUT: true; the input reads as it did. -/
def fnExactOrderOkSpec : ChangeSpec := { name := "fnExactOrderOk", fn := fun _ => fun
  | [d1, d2] => { results := [.lit (.bool true)], args := [d1, d2] }
  | _ => none }
def fnExactOrderOkRow : OpenClaim := { program := "ytimkmdedoacpfaa", sum := "410cf10d800f6a915f03a4bb1018fe7ad0dfd50304accfc56aab82366c3a19b4", func := "loop.example/sigmaproofs/laws.FnExactOrderOk", spec := "fnExactOrderOk", apart := false }
def FnExactOrderOkSaid : Prop := fnExactOrderOkRow.holds Try.pinned (OpenSpec.ofChange fnExactOrderOkSpec)

/-- ITS FALSE NEIGHBOUR: 'it returns false'. Refute it at one input. -/
def fnExactOrderOkWrong : ChangeSpec := { name := "fnExactOrderOk", fn := fun _ => fun
  | [d1, d2] => { results := [.lit (.bool false)], args := [d1, d2] }
  | _ => none }
def FnExactOrderOkWrongFalsely : Prop := fnExactOrderOkRow.holds Try.pinned (OpenSpec.ofChange fnExactOrderOkWrong)

/-- 'laws.FnExactGraphOk': WHATEVER THE INPUT: true; the input reads as it did. -/
def fnExactGraphOkSpec : ChangeSpec := { name := "fnExactGraphOk", fn := fun _ => fun
  | [d] => { results := [.lit (.bool true)], args := [d] }
  | _ => none }
def fnExactGraphOkRow : OpenClaim := { program := "ytimkmdedoacpfaa", sum := "410cf10d800f6a915f03a4bb1018fe7ad0dfd50304accfc56aab82366c3a19b4", func := "loop.example/sigmaproofs/laws.FnExactGraphOk", spec := "fnExactGraphOk", apart := false }
def FnExactGraphOkSaid : Prop := fnExactGraphOkRow.holds Try.pinned (OpenSpec.ofChange fnExactGraphOkSpec)

/-- ITS FALSE NEIGHBOUR: 'it returns false'. Refute it at one input. -/
def fnExactGraphOkWrong : ChangeSpec := { name := "fnExactGraphOk", fn := fun _ => fun
  | [d] => { results := [.lit (.bool false)], args := [d] }
  | _ => none }
def FnExactGraphOkWrongFalsely : Prop := fnExactGraphOkRow.holds Try.pinned (OpenSpec.ofChange fnExactGraphOkWrong)

/- THE SECOND FORM. 'bulk': how many values and letters a reading holds, each counted each time it is reached (what is shared counts as often as it is met; a slice's spare places count too). A statement '..UptoSaid' is the law's where the arguments, and the package variables that the reading takes, are together of bulk at most 1048576: NARROWER than '..Said'. Prove '..Said' where nothing that the law and all that it calls make is longer than what came in: it says more and counts as full. Else prove '..UptoSaid'. A law counts once. -/
mutual
def uptoBulk {H : Type} : DataW H → Nat
  | .lit (.string bytes) => bytes.length + 1
  | .lit _ => 1
  | .nil => 1
  | .ptr d => uptoBulk d + 1
  | .slice elems spare => uptoBulkAll elems + uptoBulkAll spare + 1
  | .agg parts => uptoBulkAll parts + 1
  | .iface _ d => uptoBulk d + 1
  | .map entries => uptoBulkEntries entries + 1
  | .held _ => 1
def uptoBulkAll {H : Type} : List (DataW H) → Nat
  | [] => 0
  | d :: r => uptoBulk d + uptoBulkAll r
def uptoBulkEntries {H : Type} : List (Lit × DataW H) → Nat
  | [] => 0
  | x :: r => uptoBulkEntry x + uptoBulkEntries r
def uptoBulkEntry {H : Type} : Lit × DataW H → Nat
  | (.string bytes, d) => bytes.length + uptoBulk d + 1
  | (_, d) => uptoBulk d + 1
 end
def uptoSmall : (H : Type) → List (DataW H) → Bool := fun _ ds => decide (uptoBulkAll ds ≤ 1048576)
def OpenSpec.upto (s : _root_.Go.ChangeSpec) : _root_.Go.OpenSpec := { _root_.Go.OpenSpec.ofChange s with cond := some uptoSmall }

/-- 'laws.FnExactFailsOf', WHERE WHAT IT READS IS OF BULK AT MOST 1048576: true; the input reads as it did. -/
def fnExactFailsOfUptoRow : OpenClaim := { program := "ytimkmdedoacpfaa", sum := "410cf10d800f6a915f03a4bb1018fe7ad0dfd50304accfc56aab82366c3a19b4", func := "loop.example/sigmaproofs/laws.FnExactFailsOf", spec := "fnExactFailsOf", apart := false, narrowed := true }
def FnExactFailsOfUptoSaid : Prop := fnExactFailsOfUptoRow.holds Try.pinned (OpenSpec.upto fnExactFailsOfSpec)

/-- 'laws.FnExactColoured', WHERE WHAT IT READS IS OF BULK AT MOST 1048576: true; the input reads as it did. -/
def fnExactColouredUptoRow : OpenClaim := { program := "ytimkmdedoacpfaa", sum := "410cf10d800f6a915f03a4bb1018fe7ad0dfd50304accfc56aab82366c3a19b4", func := "loop.example/sigmaproofs/laws.FnExactColoured", spec := "fnExactColoured", apart := false, narrowed := true }
def FnExactColouredUptoSaid : Prop := fnExactColouredUptoRow.holds Try.pinned (OpenSpec.upto fnExactColouredSpec)

/-- 'laws.FnExactColoursOf', WHERE WHAT IT READS IS OF BULK AT MOST 1048576: true; the input reads as it did. -/
def fnExactColoursOfUptoRow : OpenClaim := { program := "ytimkmdedoacpfaa", sum := "410cf10d800f6a915f03a4bb1018fe7ad0dfd50304accfc56aab82366c3a19b4", func := "loop.example/sigmaproofs/laws.FnExactColoursOf", spec := "fnExactColoursOf", apart := false, narrowed := true }
def FnExactColoursOfUptoSaid : Prop := fnExactColoursOfUptoRow.holds Try.pinned (OpenSpec.upto fnExactColoursOfSpec)

/-- 'laws.FnExactPainted', WHERE WHAT IT READS IS OF BULK AT MOST 1048576: true; the input reads as it did. -/
def fnExactPaintedUptoRow : OpenClaim := { program := "ytimkmdedoacpfaa", sum := "410cf10d800f6a915f03a4bb1018fe7ad0dfd50304accfc56aab82366c3a19b4", func := "loop.example/sigmaproofs/laws.FnExactPainted", spec := "fnExactPainted", apart := false, narrowed := true }
def FnExactPaintedUptoSaid : Prop := fnExactPaintedUptoRow.holds Try.pinned (OpenSpec.upto fnExactPaintedSpec)

/-- 'laws.FnExactViewsOf', WHERE WHAT IT READS IS OF BULK AT MOST 1048576: true; the input reads as it did. -/
def fnExactViewsOfUptoRow : OpenClaim := { program := "ytimkmdedoacpfaa", sum := "410cf10d800f6a915f03a4bb1018fe7ad0dfd50304accfc56aab82366c3a19b4", func := "loop.example/sigmaproofs/laws.FnExactViewsOf", spec := "fnExactViewsOf", unfollowed := true, recurses := true, apart := false, narrowed := true }
def FnExactViewsOfUptoSaid : Prop := fnExactViewsOfUptoRow.holds Try.pinned (OpenSpec.upto fnExactViewsOfSpec)

/-- 'laws.FnExactViewsMade', WHERE WHAT IT READS IS OF BULK AT MOST 1048576: true; the input reads as it did. -/
def fnExactViewsMadeUptoRow : OpenClaim := { program := "ytimkmdedoacpfaa", sum := "410cf10d800f6a915f03a4bb1018fe7ad0dfd50304accfc56aab82366c3a19b4", func := "loop.example/sigmaproofs/laws.FnExactViewsMade", spec := "fnExactViewsMade", apart := false, narrowed := true }
def FnExactViewsMadeUptoSaid : Prop := fnExactViewsMadeUptoRow.holds Try.pinned (OpenSpec.upto fnExactViewsMadeSpec)

/-- 'laws.FnExactBestCheat', WHERE WHAT IT READS IS OF BULK AT MOST 1048576: true; the input reads as it did. -/
def fnExactBestCheatUptoRow : OpenClaim := { program := "ytimkmdedoacpfaa", sum := "410cf10d800f6a915f03a4bb1018fe7ad0dfd50304accfc56aab82366c3a19b4", func := "loop.example/sigmaproofs/laws.FnExactBestCheat", spec := "fnExactBestCheat", apart := false, narrowed := true }
def FnExactBestCheatUptoSaid : Prop := fnExactBestCheatUptoRow.holds Try.pinned (OpenSpec.upto fnExactBestCheatSpec)

/-- 'laws.FnExactFoundOut', WHERE WHAT IT READS IS OF BULK AT MOST 1048576: true; the input reads as it did. -/
def fnExactFoundOutUptoRow : OpenClaim := { program := "ytimkmdedoacpfaa", sum := "410cf10d800f6a915f03a4bb1018fe7ad0dfd50304accfc56aab82366c3a19b4", func := "loop.example/sigmaproofs/laws.FnExactFoundOut", spec := "fnExactFoundOut", apart := false, narrowed := true }
def FnExactFoundOutUptoSaid : Prop := fnExactFoundOutUptoRow.holds Try.pinned (OpenSpec.upto fnExactFoundOutSpec)

/-- 'laws.FnExactOrdersBetween', WHERE WHAT IT READS IS OF BULK AT MOST 1048576: true; the input reads as it did. -/
def fnExactOrdersBetweenUptoRow : OpenClaim := { program := "ytimkmdedoacpfaa", sum := "410cf10d800f6a915f03a4bb1018fe7ad0dfd50304accfc56aab82366c3a19b4", func := "loop.example/sigmaproofs/laws.FnExactOrdersBetween", spec := "fnExactOrdersBetween", unfollowed := true, recurses := true, apart := false, narrowed := true }
def FnExactOrdersBetweenUptoSaid : Prop := fnExactOrdersBetweenUptoRow.holds Try.pinned (OpenSpec.upto fnExactOrdersBetweenSpec)

/-- 'laws.FnExactTurnTable', WHERE WHAT IT READS IS OF BULK AT MOST 1048576: true; the input reads as it did. -/
def fnExactTurnTableUptoRow : OpenClaim := { program := "ytimkmdedoacpfaa", sum := "410cf10d800f6a915f03a4bb1018fe7ad0dfd50304accfc56aab82366c3a19b4", func := "loop.example/sigmaproofs/laws.FnExactTurnTable", spec := "fnExactTurnTable", unfollowed := true, recurses := true, apart := false, narrowed := true }
def FnExactTurnTableUptoSaid : Prop := fnExactTurnTableUptoRow.holds Try.pinned (OpenSpec.upto fnExactTurnTableSpec)

/-- 'laws.FnExactOrderOk', WHERE WHAT IT READS IS OF BULK AT MOST 1048576: true; the input reads as it did. -/
def fnExactOrderOkUptoRow : OpenClaim := { program := "ytimkmdedoacpfaa", sum := "410cf10d800f6a915f03a4bb1018fe7ad0dfd50304accfc56aab82366c3a19b4", func := "loop.example/sigmaproofs/laws.FnExactOrderOk", spec := "fnExactOrderOk", apart := false, narrowed := true }
def FnExactOrderOkUptoSaid : Prop := fnExactOrderOkUptoRow.holds Try.pinned (OpenSpec.upto fnExactOrderOkSpec)

/-- 'laws.FnExactGraphOk', WHERE WHAT IT READS IS OF BULK AT MOST 1048576: true; the input reads as it did. -/
def fnExactGraphOkUptoRow : OpenClaim := { program := "ytimkmdedoacpfaa", sum := "410cf10d800f6a915f03a4bb1018fe7ad0dfd50304accfc56aab82366c3a19b4", func := "loop.example/sigmaproofs/laws.FnExactGraphOk", spec := "fnExactGraphOk", apart := false, narrowed := true }
def FnExactGraphOkUptoSaid : Prop := fnExactGraphOkUptoRow.holds Try.pinned (OpenSpec.upto fnExactGraphOkSpec)

end Rows
end Go.Proofs.Ytimkmdedoacpfaa
