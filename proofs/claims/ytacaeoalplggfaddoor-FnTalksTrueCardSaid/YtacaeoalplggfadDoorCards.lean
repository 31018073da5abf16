/-
  DERIVED. GIVEN WITH THE SEED: THE CARDS: each row of YtacaeoalplggfadDoorRows.lean that lists a variable, with what it lists TIED to the program's text (the seventh form; the later family's looks); each row that meets fmt, with fmt's text TOLD by the authors' own Lean function (tested against real Go, not proved from fmt's source: count such statements apart). THE CARD IS WHAT COUNTS. Prove the row's statement (the work); the ties are given (YtacaeoalplggfadDoorTie.lean); close each card by the builder's one call (the guide's Derived/Test/ToyasCard.lean, 'card_holds'). Laid BY PROGRAM, IN A SANDBOX (cutbox-door.mjs). By AI agents, Wed Nov 11 2026. No macro, syntax, notation, axiom, sorry.
-/
import Derived.Test.YtacaeoalplggfadDoorRows
import GoSem.ClaimSeven
namespace Go.Proofs.YtacaeoalplggfadDoor
namespace Rows

/-- THE TIED CARD OF 'laws.FnTalksTrue'. -/
def fnTalksTrueCard : Claim7 := { stood := { row := fnTalksTrueRow, standIns := [], harness := (true, "c9c0e4f8de4be5d74c644f4ea8f2ac7e2c9ab55a88e48504aa499df6c03fb166"), looks := false }, kinds := [], alts := [], laidByText := true, laidKinds := [.data], laidTests := true, laidLooks := .later }
def FnTalksTrueCardSaid : Prop := Claim7.holds Tryd.pinned (.plain (OpenSpec.ofChange fnTalksTrueSpec)) fnTalksTrueCard

/-- THE TIED CARD OF 'laws.FnTalksMade'. -/
def fnTalksMadeCard : Claim7 := { stood := { row := fnTalksMadeRow, standIns := [], harness := (true, "c9c0e4f8de4be5d74c644f4ea8f2ac7e2c9ab55a88e48504aa499df6c03fb166"), looks := false }, kinds := [], alts := [], laidByText := true, laidKinds := [.data], laidTests := true, laidLooks := .later }
def FnTalksMadeCardSaid : Prop := Claim7.holds Tryd.pinned (.plain (OpenSpec.ofChange fnTalksMadeSpec)) fnTalksMadeCard

/-- THE TIED CARD OF 'laws.FnExactTalksTrue'. -/
def fnExactTalksTrueCard : Claim7 := { stood := { row := fnExactTalksTrueRow, standIns := [], harness := (true, "c9c0e4f8de4be5d74c644f4ea8f2ac7e2c9ab55a88e48504aa499df6c03fb166"), looks := false }, kinds := [], alts := [], laidByText := true, laidKinds := [.data], laidTests := true, laidLooks := .later }
def FnExactTalksTrueCardSaid : Prop := Claim7.holds Tryd.pinned (.plain (OpenSpec.ofChange fnExactTalksTrueSpec)) fnExactTalksTrueCard

/-- THE TIED CARD OF 'laws.FnExactTalksMade'. -/
def fnExactTalksMadeCard : Claim7 := { stood := { row := fnExactTalksMadeRow, standIns := [], harness := (true, "c9c0e4f8de4be5d74c644f4ea8f2ac7e2c9ab55a88e48504aa499df6c03fb166"), looks := false }, kinds := [], alts := [], laidByText := true, laidKinds := [.data], laidTests := true, laidLooks := .later }
def FnExactTalksMadeCardSaid : Prop := Claim7.holds Tryd.pinned (.plain (OpenSpec.ofChange fnExactTalksMadeSpec)) fnExactTalksMadeCard

/-- THE SECOND FORM's CARD OF 'laws.FnTalksTrue'. -/
def fnTalksTrueUptoCard : Claim7 := { stood := { row := fnTalksTrueUptoRow, standIns := [], harness := (true, "c9c0e4f8de4be5d74c644f4ea8f2ac7e2c9ab55a88e48504aa499df6c03fb166"), looks := false }, kinds := [], alts := [], laidByText := true, laidKinds := [.data], laidTests := true, laidLooks := .later }
def FnTalksTrueUptoCardSaid : Prop := Claim7.holds Tryd.pinned (.plain (OpenSpec.upto fnTalksTrueSpec)) fnTalksTrueUptoCard

/-- THE SECOND FORM's CARD OF 'laws.FnTalksMade'. -/
def fnTalksMadeUptoCard : Claim7 := { stood := { row := fnTalksMadeUptoRow, standIns := [], harness := (true, "c9c0e4f8de4be5d74c644f4ea8f2ac7e2c9ab55a88e48504aa499df6c03fb166"), looks := false }, kinds := [], alts := [], laidByText := true, laidKinds := [.data], laidTests := true, laidLooks := .later }
def FnTalksMadeUptoCardSaid : Prop := Claim7.holds Tryd.pinned (.plain (OpenSpec.upto fnTalksMadeSpec)) fnTalksMadeUptoCard

/-- THE SECOND FORM's CARD OF 'laws.FnExactTalksTrue'. -/
def fnExactTalksTrueUptoCard : Claim7 := { stood := { row := fnExactTalksTrueUptoRow, standIns := [], harness := (true, "c9c0e4f8de4be5d74c644f4ea8f2ac7e2c9ab55a88e48504aa499df6c03fb166"), looks := false }, kinds := [], alts := [], laidByText := true, laidKinds := [.data], laidTests := true, laidLooks := .later }
def FnExactTalksTrueUptoCardSaid : Prop := Claim7.holds Tryd.pinned (.plain (OpenSpec.upto fnExactTalksTrueSpec)) fnExactTalksTrueUptoCard

/-- THE SECOND FORM's CARD OF 'laws.FnExactTalksMade'. -/
def fnExactTalksMadeUptoCard : Claim7 := { stood := { row := fnExactTalksMadeUptoRow, standIns := [], harness := (true, "c9c0e4f8de4be5d74c644f4ea8f2ac7e2c9ab55a88e48504aa499df6c03fb166"), looks := false }, kinds := [], alts := [], laidByText := true, laidKinds := [.data], laidTests := true, laidLooks := .later }
def FnExactTalksMadeUptoCardSaid : Prop := Claim7.holds Tryd.pinned (.plain (OpenSpec.upto fnExactTalksMadeSpec)) fnExactTalksMadeUptoCard
end Rows
end Go.Proofs.YtacaeoalplggfadDoor
