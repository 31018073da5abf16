/-
  DERIVED. GIVEN WITH THE SEED: THE CARDS: each row of YtlcegpmhlnilfabDoorRows.lean that lists a variable, with what it lists TIED to the program's text (the seventh form; the later family's looks); each row that meets fmt, with fmt's text TOLD by the authors' own Lean function (tested against real Go, not proved from fmt's source: count such statements apart). THE CARD IS WHAT COUNTS. Prove the row's statement (the work); the ties are given (YtlcegpmhlnilfabDoorTie.lean); close each card by the builder's one call (the guide's Derived/Test/ToyasCard.lean, 'card_holds'). Laid BY PROGRAM, IN A SANDBOX (cutbox-door.mjs). By AI agents, Wed Nov 11 2026. No macro, syntax, notation, axiom, sorry.
-/
import Derived.Test.YtlcegpmhlnilfabDoorRows
import GoSem.ClaimSeven
namespace Go.Proofs.YtlcegpmhlnilfabDoor
namespace Rows

/-- THE TIED CARD OF 'laws.FnTurnTable'. -/
def fnTurnTableCard : Claim7 := { stood := { row := fnTurnTableRow, standIns := [], harness := (true, "08844e503b2a5a88630dda1c956c1189505e43bdd066d921c31c888072de2556"), looks := false }, kinds := [], alts := [], goes := true, laidByText := true, laidKinds := [.data], laidTests := true, laidLooks := .later }
def FnTurnTableCardSaid : Prop := Claim7.holds Tryd.pinned (.plain (OpenSpec.ofChange fnTurnTableSpec)) fnTurnTableCard

/-- THE TIED CARD OF 'laws.FnAskerOk'. -/
def fnAskerOkCard : Claim7 := { stood := { row := fnAskerOkRow, standIns := [], harness := (true, "08844e503b2a5a88630dda1c956c1189505e43bdd066d921c31c888072de2556"), looks := false }, kinds := [], alts := [], laidByText := true, laidKinds := [.data], laidTests := true, laidLooks := .later }
def FnAskerOkCardSaid : Prop := Claim7.holds Tryd.pinned (.plain (OpenSpec.ofChange fnAskerOkSpec)) fnAskerOkCard

/-- THE TIED CARD OF 'laws.FnAskedBy'. -/
def fnAskedByCard : Claim7 := { stood := { row := fnAskedByRow, standIns := [], harness := (true, "08844e503b2a5a88630dda1c956c1189505e43bdd066d921c31c888072de2556"), looks := false }, kinds := [], alts := [], laidByText := true, laidKinds := [.data], laidTests := true, laidLooks := .later }
def FnAskedByCardSaid : Prop := Claim7.holds Tryd.pinned (.plain (OpenSpec.ofChange fnAskedBySpec)) fnAskedByCard

/-- THE TIED CARD OF 'laws.FnHeardFrom'. -/
def fnHeardFromCard : Claim7 := { stood := { row := fnHeardFromRow, standIns := [], harness := (true, "08844e503b2a5a88630dda1c956c1189505e43bdd066d921c31c888072de2556"), looks := false }, kinds := [], alts := [], goes := true, laidByText := true, laidKinds := [.data], laidTests := true, laidLooks := .later }
def FnHeardFromCardSaid : Prop := Claim7.holds Tryd.pinned (.plain (OpenSpec.ofChange fnHeardFromSpec)) fnHeardFromCard

/-- THE TIED CARD OF 'laws.FnKeptBy'. -/
def fnKeptByCard : Claim7 := { stood := { row := fnKeptByRow, standIns := [], harness := (true, "08844e503b2a5a88630dda1c956c1189505e43bdd066d921c31c888072de2556"), looks := false }, kinds := [], alts := [], goes := true, laidByText := true, laidKinds := [.data], laidTests := true, laidLooks := .later }
def FnKeptByCardSaid : Prop := Claim7.holds Tryd.pinned (.plain (OpenSpec.ofChange fnKeptBySpec)) fnKeptByCard

/-- THE TIED CARD OF 'laws.FnGraphAsker'. -/
def fnGraphAskerCard : Claim7 := { stood := { row := fnGraphAskerRow, standIns := [], harness := (true, "08844e503b2a5a88630dda1c956c1189505e43bdd066d921c31c888072de2556"), looks := false }, kinds := [], alts := [], laidByText := true, laidKinds := [.data], laidTests := true, laidLooks := .later }
def FnGraphAskerCardSaid : Prop := Claim7.holds Tryd.pinned (.plain (OpenSpec.ofChange fnGraphAskerSpec)) fnGraphAskerCard

/-- THE TIED CARD OF 'laws.FnGraphAsked'. -/
def fnGraphAskedCard : Claim7 := { stood := { row := fnGraphAskedRow, standIns := [], harness := (true, "08844e503b2a5a88630dda1c956c1189505e43bdd066d921c31c888072de2556"), looks := false }, kinds := [], alts := [], laidByText := true, laidKinds := [.data], laidTests := true, laidLooks := .later }
def FnGraphAskedCardSaid : Prop := Claim7.holds Tryd.pinned (.plain (OpenSpec.ofChange fnGraphAskedSpec)) fnGraphAskedCard

/-- THE TIED CARD OF 'laws.FnTurnsHeard'. -/
def fnTurnsHeardCard : Claim7 := { stood := { row := fnTurnsHeardRow, standIns := [], harness := (true, "08844e503b2a5a88630dda1c956c1189505e43bdd066d921c31c888072de2556"), looks := false }, kinds := [], alts := [], goes := true, laidByText := true, laidKinds := [.data], laidTests := true, laidLooks := .later }
def FnTurnsHeardCardSaid : Prop := Claim7.holds Tryd.pinned (.plain (OpenSpec.ofChange fnTurnsHeardSpec)) fnTurnsHeardCard

/-- THE TIED CARD OF 'laws.FnTurnsKept'. -/
def fnTurnsKeptCard : Claim7 := { stood := { row := fnTurnsKeptRow, standIns := [], harness := (true, "08844e503b2a5a88630dda1c956c1189505e43bdd066d921c31c888072de2556"), looks := false }, kinds := [], alts := [], goes := true, laidByText := true, laidKinds := [.data], laidTests := true, laidLooks := .later }
def FnTurnsKeptCardSaid : Prop := Claim7.holds Tryd.pinned (.plain (OpenSpec.ofChange fnTurnsKeptSpec)) fnTurnsKeptCard

/-- THE SECOND FORM's CARD OF 'laws.FnTurnTable'. -/
def fnTurnTableUptoCard : Claim7 := { stood := { row := fnTurnTableUptoRow, standIns := [], harness := (true, "08844e503b2a5a88630dda1c956c1189505e43bdd066d921c31c888072de2556"), looks := false }, kinds := [], alts := [], goes := true, laidByText := true, laidKinds := [.data], laidTests := true, laidLooks := .later }
def FnTurnTableUptoCardSaid : Prop := Claim7.holds Tryd.pinned (.plain (OpenSpec.upto fnTurnTableSpec)) fnTurnTableUptoCard

/-- THE SECOND FORM's CARD OF 'laws.FnAskerOk'. -/
def fnAskerOkUptoCard : Claim7 := { stood := { row := fnAskerOkUptoRow, standIns := [], harness := (true, "08844e503b2a5a88630dda1c956c1189505e43bdd066d921c31c888072de2556"), looks := false }, kinds := [], alts := [], laidByText := true, laidKinds := [.data], laidTests := true, laidLooks := .later }
def FnAskerOkUptoCardSaid : Prop := Claim7.holds Tryd.pinned (.plain (OpenSpec.upto fnAskerOkSpec)) fnAskerOkUptoCard

/-- THE SECOND FORM's CARD OF 'laws.FnAskedBy'. -/
def fnAskedByUptoCard : Claim7 := { stood := { row := fnAskedByUptoRow, standIns := [], harness := (true, "08844e503b2a5a88630dda1c956c1189505e43bdd066d921c31c888072de2556"), looks := false }, kinds := [], alts := [], laidByText := true, laidKinds := [.data], laidTests := true, laidLooks := .later }
def FnAskedByUptoCardSaid : Prop := Claim7.holds Tryd.pinned (.plain (OpenSpec.upto fnAskedBySpec)) fnAskedByUptoCard

/-- THE SECOND FORM's CARD OF 'laws.FnHeardFrom'. -/
def fnHeardFromUptoCard : Claim7 := { stood := { row := fnHeardFromUptoRow, standIns := [], harness := (true, "08844e503b2a5a88630dda1c956c1189505e43bdd066d921c31c888072de2556"), looks := false }, kinds := [], alts := [], goes := true, laidByText := true, laidKinds := [.data], laidTests := true, laidLooks := .later }
def FnHeardFromUptoCardSaid : Prop := Claim7.holds Tryd.pinned (.plain (OpenSpec.upto fnHeardFromSpec)) fnHeardFromUptoCard

/-- THE SECOND FORM's CARD OF 'laws.FnKeptBy'. -/
def fnKeptByUptoCard : Claim7 := { stood := { row := fnKeptByUptoRow, standIns := [], harness := (true, "08844e503b2a5a88630dda1c956c1189505e43bdd066d921c31c888072de2556"), looks := false }, kinds := [], alts := [], goes := true, laidByText := true, laidKinds := [.data], laidTests := true, laidLooks := .later }
def FnKeptByUptoCardSaid : Prop := Claim7.holds Tryd.pinned (.plain (OpenSpec.upto fnKeptBySpec)) fnKeptByUptoCard

/-- THE SECOND FORM's CARD OF 'laws.FnGraphAsker'. -/
def fnGraphAskerUptoCard : Claim7 := { stood := { row := fnGraphAskerUptoRow, standIns := [], harness := (true, "08844e503b2a5a88630dda1c956c1189505e43bdd066d921c31c888072de2556"), looks := false }, kinds := [], alts := [], laidByText := true, laidKinds := [.data], laidTests := true, laidLooks := .later }
def FnGraphAskerUptoCardSaid : Prop := Claim7.holds Tryd.pinned (.plain (OpenSpec.upto fnGraphAskerSpec)) fnGraphAskerUptoCard

/-- THE SECOND FORM's CARD OF 'laws.FnGraphAsked'. -/
def fnGraphAskedUptoCard : Claim7 := { stood := { row := fnGraphAskedUptoRow, standIns := [], harness := (true, "08844e503b2a5a88630dda1c956c1189505e43bdd066d921c31c888072de2556"), looks := false }, kinds := [], alts := [], laidByText := true, laidKinds := [.data], laidTests := true, laidLooks := .later }
def FnGraphAskedUptoCardSaid : Prop := Claim7.holds Tryd.pinned (.plain (OpenSpec.upto fnGraphAskedSpec)) fnGraphAskedUptoCard

/-- THE SECOND FORM's CARD OF 'laws.FnTurnsHeard'. -/
def fnTurnsHeardUptoCard : Claim7 := { stood := { row := fnTurnsHeardUptoRow, standIns := [], harness := (true, "08844e503b2a5a88630dda1c956c1189505e43bdd066d921c31c888072de2556"), looks := false }, kinds := [], alts := [], goes := true, laidByText := true, laidKinds := [.data], laidTests := true, laidLooks := .later }
def FnTurnsHeardUptoCardSaid : Prop := Claim7.holds Tryd.pinned (.plain (OpenSpec.upto fnTurnsHeardSpec)) fnTurnsHeardUptoCard

/-- THE SECOND FORM's CARD OF 'laws.FnTurnsKept'. -/
def fnTurnsKeptUptoCard : Claim7 := { stood := { row := fnTurnsKeptUptoRow, standIns := [], harness := (true, "08844e503b2a5a88630dda1c956c1189505e43bdd066d921c31c888072de2556"), looks := false }, kinds := [], alts := [], goes := true, laidByText := true, laidKinds := [.data], laidTests := true, laidLooks := .later }
def FnTurnsKeptUptoCardSaid : Prop := Claim7.holds Tryd.pinned (.plain (OpenSpec.upto fnTurnsKeptSpec)) fnTurnsKeptUptoCard
end Rows
end Go.Proofs.YtlcegpmhlnilfabDoor
