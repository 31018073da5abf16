/-
  No cell of these rows narrows 'for every input' (looked for: loops, veiled, ifaces, maps, wideKeys, modest, calm, conditions, laid).
  DERIVED. THE GIVEN ROWS OF THIS SEAT. 5 by the template 'for every input the law returns true; each argument reads behind the call as it read before'; 0 by the template 'total and deterministic' (their statements: YtlcegpmhlnilfaaTotals.lean).
  GIVEN WITH THE SEED: the statements are not yours to turn. If you find one false, say at which input.
  Laid BY PROGRAM, IN A SANDBOX (cutbox-rows.mjs): the forced cells as the released guide's own fill.sh prints them over the translation 8430c865b167e592… (all of the seat's roots in one cut). By AI agents, Wed Nov 11 2026. No macro, syntax, notation, axiom, sorry.
-/
import Derived.Test.YtlcegpmhlnilfaaChecked
import GoSem.Claim
import GoSem.ClaimJoined
import GoSem.ClaimMapViews
import Derived.JoinedTies
import Derived.KernelRfl
namespace Go.Proofs.Ytlcegpmhlnilfaa
/- THE CELL 'sum', in the pinned program and in every row, IS THE sha256 OF THE DUMP (.gsa) THAT YtlcegpmhlnilfaaProg.lean LOADS. Nothing in Lean hashes anything: it is a label: what it is worth is what the hold of that sum in a sandbox is worth. -/
noncomputable def Try.pinned : Pinned := { name := "ytlcegpmhlnilfaa", sum := "8430c865b167e5924dd0b53bd6ba135699cdb8ef7c3ea3188388b53cddc2e58b", checked := Try.checked }
namespace Rows
def none {H : Type} : Left H := { results := [], args := [] }

/-- 'laws.FnExactGraphAsker': WHATEVER THE INPUT: true; the input reads as it did. -/
def fnExactGraphAskerSpec : ChangeSpec := { name := "fnExactGraphAsker", fn := fun _ => fun
  | [d] => { results := [.lit (.bool true)], args := [d] }
  | _ => none }
def fnExactGraphAskerRow : OpenClaim := { program := "ytlcegpmhlnilfaa", sum := "8430c865b167e5924dd0b53bd6ba135699cdb8ef7c3ea3188388b53cddc2e58b", func := "loop.example/sigmaproofs/laws.FnExactGraphAsker", spec := "fnExactGraphAsker", apart := false }
def FnExactGraphAskerSaid : Prop := fnExactGraphAskerRow.holds Try.pinned (OpenSpec.ofChange fnExactGraphAskerSpec)

/-- ITS FALSE NEIGHBOUR: 'it returns false'. Refute it at one input. -/
def fnExactGraphAskerWrong : ChangeSpec := { name := "fnExactGraphAsker", fn := fun _ => fun
  | [d] => { results := [.lit (.bool false)], args := [d] }
  | _ => none }
def FnExactGraphAskerWrongFalsely : Prop := fnExactGraphAskerRow.holds Try.pinned (OpenSpec.ofChange fnExactGraphAskerWrong)

/-- 'laws.FnExactGraphAsked': WHATEVER THE INPUT: true; the input reads as it did. -/
def fnExactGraphAskedSpec : ChangeSpec := { name := "fnExactGraphAsked", fn := fun _ => fun
  | [d1, d2] => { results := [.lit (.bool true)], args := [d1, d2] }
  | _ => none }
def fnExactGraphAskedRow : OpenClaim := { program := "ytlcegpmhlnilfaa", sum := "8430c865b167e5924dd0b53bd6ba135699cdb8ef7c3ea3188388b53cddc2e58b", func := "loop.example/sigmaproofs/laws.FnExactGraphAsked", spec := "fnExactGraphAsked", apart := false }
def FnExactGraphAskedSaid : Prop := fnExactGraphAskedRow.holds Try.pinned (OpenSpec.ofChange fnExactGraphAskedSpec)

/-- ITS FALSE NEIGHBOUR: 'it returns false'. Refute it at one input. -/
def fnExactGraphAskedWrong : ChangeSpec := { name := "fnExactGraphAsked", fn := fun _ => fun
  | [d1, d2] => { results := [.lit (.bool false)], args := [d1, d2] }
  | _ => none }
def FnExactGraphAskedWrongFalsely : Prop := fnExactGraphAskedRow.holds Try.pinned (OpenSpec.ofChange fnExactGraphAskedWrong)

/-- 'laws.FnExactTurnsHeard': WHATEVER THE INPUT: true; the input reads as it did. -/
def fnExactTurnsHeardSpec : ChangeSpec := { name := "fnExactTurnsHeard", fn := fun _ => fun
  | [d1, d2, d3, d4] => { results := [.lit (.bool true)], args := [d1, d2, d3, d4] }
  | _ => none }
def fnExactTurnsHeardRow : OpenClaim := { program := "ytlcegpmhlnilfaa", sum := "8430c865b167e5924dd0b53bd6ba135699cdb8ef7c3ea3188388b53cddc2e58b", func := "loop.example/sigmaproofs/laws.FnExactTurnsHeard", spec := "fnExactTurnsHeard", unfollowed := true, recurses := true, apart := false }
def FnExactTurnsHeardSaid : Prop := fnExactTurnsHeardRow.holds Try.pinned (OpenSpec.ofChange fnExactTurnsHeardSpec)

/-- ITS FALSE NEIGHBOUR: 'it returns false'. Refute it at one input. -/
def fnExactTurnsHeardWrong : ChangeSpec := { name := "fnExactTurnsHeard", fn := fun _ => fun
  | [d1, d2, d3, d4] => { results := [.lit (.bool false)], args := [d1, d2, d3, d4] }
  | _ => none }
def FnExactTurnsHeardWrongFalsely : Prop := fnExactTurnsHeardRow.holds Try.pinned (OpenSpec.ofChange fnExactTurnsHeardWrong)

/-- 'laws.FnExactTurnsKept': WHATEVER THE INPUT: true; the input reads as it did. -/
def fnExactTurnsKeptSpec : ChangeSpec := { name := "fnExactTurnsKept", fn := fun _ => fun
  | [d1, d2, d3] => { results := [.lit (.bool true)], args := [d1, d2, d3] }
  | _ => none }
def fnExactTurnsKeptRow : OpenClaim := { program := "ytlcegpmhlnilfaa", sum := "8430c865b167e5924dd0b53bd6ba135699cdb8ef7c3ea3188388b53cddc2e58b", func := "loop.example/sigmaproofs/laws.FnExactTurnsKept", spec := "fnExactTurnsKept", unfollowed := true, recurses := true, apart := false }
def FnExactTurnsKeptSaid : Prop := fnExactTurnsKeptRow.holds Try.pinned (OpenSpec.ofChange fnExactTurnsKeptSpec)

/-- ITS FALSE NEIGHBOUR: 'it returns false'. Refute it at one input. -/
def fnExactTurnsKeptWrong : ChangeSpec := { name := "fnExactTurnsKept", fn := fun _ => fun
  | [d1, d2, d3] => { results := [.lit (.bool false)], args := [d1, d2, d3] }
  | _ => none }
def FnExactTurnsKeptWrongFalsely : Prop := fnExactTurnsKeptRow.holds Try.pinned (OpenSpec.ofChange fnExactTurnsKeptWrong)

/-- 'laws.FnExactTurnTable': WHATEVER THE INPUT: true; the input reads as it did. -/
def fnExactTurnTableSpec : ChangeSpec := { name := "fnExactTurnTable", fn := fun _ => fun
  | [d1, d2, d3] => { results := [.lit (.bool true)], args := [d1, d2, d3] }
  | _ => none }
def fnExactTurnTableRow : OpenClaim := { program := "ytlcegpmhlnilfaa", sum := "8430c865b167e5924dd0b53bd6ba135699cdb8ef7c3ea3188388b53cddc2e58b", func := "loop.example/sigmaproofs/laws.FnExactTurnTable", spec := "fnExactTurnTable", unfollowed := true, recurses := true, apart := false }
def FnExactTurnTableSaid : Prop := fnExactTurnTableRow.holds Try.pinned (OpenSpec.ofChange fnExactTurnTableSpec)

/-- ITS FALSE NEIGHBOUR: 'it returns false'. Refute it at one input. -/
def fnExactTurnTableWrong : ChangeSpec := { name := "fnExactTurnTable", fn := fun _ => fun
  | [d1, d2, d3] => { results := [.lit (.bool false)], args := [d1, d2, d3] }
  | _ => none }
def FnExactTurnTableWrongFalsely : Prop := fnExactTurnTableRow.holds Try.pinned (OpenSpec.ofChange fnExactTurnTableWrong)

/- THE SECOND FORM. 'bulk': how many values and letters a reading holds, each counted each time it is reached (what is shared counts as often as it is met; a slice's spare places count too). A statement '..UptoSaid' is the law's where the arguments, and the package variables that the reading takes, are together of bulk at most 1048576: NARROWER than '..Said'. Prove '..Said' where nothing that the law and all that it calls make is longer than what came in: it says more and counts as full. Else prove '..UptoSaid'. A law counts once. -/
mutual
def uptoBulk {H : Type} : DataW H → Nat
  | .lit (.string bytes) => bytes.length + 1
  | .lit _ => 1
  | .nil => 1
  | .ptr d => uptoBulk d + 1
  | .slice elems spare => uptoBulkAll elems + uptoBulkAll spare + 1
  | .agg parts => uptoBulkAll parts + 1
  | .iface _ d => uptoBulk d + 1
  | .map entries => uptoBulkEntries entries + 1
  | .held _ => 1
def uptoBulkAll {H : Type} : List (DataW H) → Nat
  | [] => 0
  | d :: r => uptoBulk d + uptoBulkAll r
def uptoBulkEntries {H : Type} : List (Lit × DataW H) → Nat
  | [] => 0
  | x :: r => uptoBulkEntry x + uptoBulkEntries r
def uptoBulkEntry {H : Type} : Lit × DataW H → Nat
  | (.string bytes, d) => bytes.length + uptoBulk d + 1
  | (_, d) => uptoBulk d + 1
 end
def uptoSmall : (H : Type) → List (DataW H) → Bool := fun _ ds => decide (uptoBulkAll ds ≤ 1048576)
def OpenSpec.upto (s : _root_.Go.ChangeSpec) : _root_.Go.OpenSpec := { _root_.Go.OpenSpec.ofChange s with cond := some uptoSmall }

/-- 'laws.FnExactGraphAsker', WHERE WHAT IT READS IS OF BULK AT MOST 1048576: true; the input reads as it did. -/
def fnExactGraphAskerUptoRow : OpenClaim := { program := "ytlcegpmhlnilfaa", sum := "8430c865b167e5924dd0b53bd6ba135699cdb8ef7c3ea3188388b53cddc2e58b", func := "loop.example/sigmaproofs/laws.FnExactGraphAsker", spec := "fnExactGraphAsker", apart := false, narrowed := true }
def FnExactGraphAskerUptoSaid : Prop := fnExactGraphAskerUptoRow.holds Try.pinned (OpenSpec.upto fnExactGraphAskerSpec)

/-- 'laws.FnExactGraphAsked', WHERE WHAT IT READS IS OF BULK AT MOST 1048576: true; the input reads as it did. -/
def fnExactGraphAskedUptoRow : OpenClaim := { program := "ytlcegpmhlnilfaa", sum := "8430c865b167e5924dd0b53bd6ba135699cdb8ef7c3ea3188388b53cddc2e58b", func := "loop.example/sigmaproofs/laws.FnExactGraphAsked", spec := "fnExactGraphAsked", apart := false, narrowed := true }
def FnExactGraphAskedUptoSaid : Prop := fnExactGraphAskedUptoRow.holds Try.pinned (OpenSpec.upto fnExactGraphAskedSpec)

/-- 'laws.FnExactTurnsHeard', WHERE WHAT IT READS IS OF BULK AT MOST 1048576: true; the input reads as it did. -/
def fnExactTurnsHeardUptoRow : OpenClaim := { program := "ytlcegpmhlnilfaa", sum := "8430c865b167e5924dd0b53bd6ba135699cdb8ef7c3ea3188388b53cddc2e58b", func := "loop.example/sigmaproofs/laws.FnExactTurnsHeard", spec := "fnExactTurnsHeard", unfollowed := true, recurses := true, apart := false, narrowed := true }
def FnExactTurnsHeardUptoSaid : Prop := fnExactTurnsHeardUptoRow.holds Try.pinned (OpenSpec.upto fnExactTurnsHeardSpec)

/-- 'laws.FnExactTurnsKept', WHERE WHAT IT READS IS OF BULK AT MOST 1048576: true; the input reads as it did. -/
def fnExactTurnsKeptUptoRow : OpenClaim := { program := "ytlcegpmhlnilfaa", sum := "8430c865b167e5924dd0b53bd6ba135699cdb8ef7c3ea3188388b53cddc2e58b", func := "loop.example/sigmaproofs/laws.FnExactTurnsKept", spec := "fnExactTurnsKept", unfollowed := true, recurses := true, apart := false, narrowed := true }
def FnExactTurnsKeptUptoSaid : Prop := fnExactTurnsKeptUptoRow.holds Try.pinned (OpenSpec.upto fnExactTurnsKeptSpec)

/-- 'laws.FnExactTurnTable', WHERE WHAT IT READS IS OF BULK AT MOST 1048576: true; the input reads as it did. -/
def fnExactTurnTableUptoRow : OpenClaim := { program := "ytlcegpmhlnilfaa", sum := "8430c865b167e5924dd0b53bd6ba135699cdb8ef7c3ea3188388b53cddc2e58b", func := "loop.example/sigmaproofs/laws.FnExactTurnTable", spec := "fnExactTurnTable", unfollowed := true, recurses := true, apart := false, narrowed := true }
def FnExactTurnTableUptoSaid : Prop := fnExactTurnTableUptoRow.holds Try.pinned (OpenSpec.upto fnExactTurnTableSpec)

end Rows
end Go.Proofs.Ytlcegpmhlnilfaa
