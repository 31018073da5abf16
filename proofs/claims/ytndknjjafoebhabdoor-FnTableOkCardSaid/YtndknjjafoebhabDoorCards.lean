/-
  DERIVED. GIVEN WITH THE SEED: THE CARDS: each row of YtndknjjafoebhabDoorRows.lean that lists a variable, with what it lists TIED to the program's text (the seventh form; the later family's looks); each row that meets fmt, with fmt's text TOLD by the authors' own Lean function (tested against real Go, not proved from fmt's source: count such statements apart). THE CARD IS WHAT COUNTS. Prove the row's statement (the work); the ties are given (YtndknjjafoebhabDoorTie.lean); close each card by the builder's one call (the guide's Derived/Test/ToyasCard.lean, 'card_holds'). Laid BY PROGRAM, IN A SANDBOX (cutbox-door.mjs). By AI agents, Wed Nov 11 2026. No macro, syntax, notation, axiom, sorry.
-/
import Derived.Test.YtndknjjafoebhabDoorRows
import GoSem.ClaimSeven
namespace Go.Proofs.YtndknjjafoebhabDoor
namespace Rows

/-- THE TIED CARD OF 'laws.FnTableOk'. -/
def fnTableOkCard : Claim7 := { stood := { row := fnTableOkRow, standIns := [], harness := (true, "c59d1e38881fbba0d0a05f8ed9b91ebf1b07b797f24c6940c6ad2b8f6276872c"), looks := false }, kinds := [], alts := [], laidByText := true, laidKinds := [.data], laidTests := true, laidLooks := .later }
def FnTableOkCardSaid : Prop := Claim7.holds Tryd.pinned (.plain (OpenSpec.ofChange fnTableOkSpec)) fnTableOkCard

/-- THE SECOND FORM's CARD OF 'laws.FnTableOk'. -/
def fnTableOkUptoCard : Claim7 := { stood := { row := fnTableOkUptoRow, standIns := [], harness := (true, "c59d1e38881fbba0d0a05f8ed9b91ebf1b07b797f24c6940c6ad2b8f6276872c"), looks := false }, kinds := [], alts := [], laidByText := true, laidKinds := [.data], laidTests := true, laidLooks := .later }
def FnTableOkUptoCardSaid : Prop := Claim7.holds Tryd.pinned (.plain (OpenSpec.upto fnTableOkSpec)) fnTableOkUptoCard
end Rows
end Go.Proofs.YtndknjjafoebhabDoor
