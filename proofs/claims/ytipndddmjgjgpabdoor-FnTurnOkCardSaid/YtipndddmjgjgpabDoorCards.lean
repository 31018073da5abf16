/-
  DERIVED. GIVEN WITH THE SEED: THE CARDS: each row of YtipndddmjgjgpabDoorRows.lean that lists a variable, with what it lists TIED to the program's text (the seventh form; the later family's looks); each row that meets fmt, with fmt's text TOLD by the authors' own Lean function (tested against real Go, not proved from fmt's source: count such statements apart). THE CARD IS WHAT COUNTS. Prove the row's statement (the work); the ties are given (YtipndddmjgjgpabDoorTie.lean); close each card by the builder's one call (the guide's Derived/Test/ToyasCard.lean, 'card_holds'). Laid BY PROGRAM, IN A SANDBOX (cutbox-door.mjs). By AI agents, Wed Nov 11 2026. No macro, syntax, notation, axiom, sorry.
-/
import Derived.Test.YtipndddmjgjgpabDoorRows
import GoSem.ClaimSeven
namespace Go.Proofs.YtipndddmjgjgpabDoor
namespace Rows

/-- THE TIED CARD OF 'laws.FnGraphOk'. -/
def fnGraphOkCard : Claim7 := { stood := { row := fnGraphOkRow, standIns := [], harness := (true, "7861fd204bf3ad1d655d48d06860888a5b7e8c5b85bf531caae879fd26846ad3"), looks := false }, kinds := [], alts := [], laidByText := true, laidKinds := [.data], laidTests := true, laidLooks := .later }
def FnGraphOkCardSaid : Prop := Claim7.holds Tryd.pinned (.plain (OpenSpec.ofChange fnGraphOkSpec)) fnGraphOkCard

/-- THE TIED CARD OF 'laws.FnOrderOk'. -/
def fnOrderOkCard : Claim7 := { stood := { row := fnOrderOkRow, standIns := [], harness := (true, "7861fd204bf3ad1d655d48d06860888a5b7e8c5b85bf531caae879fd26846ad3"), looks := false }, kinds := [], alts := [], laidByText := true, laidKinds := [.data], laidTests := true, laidLooks := .later }
def FnOrderOkCardSaid : Prop := Claim7.holds Tryd.pinned (.plain (OpenSpec.ofChange fnOrderOkSpec)) fnOrderOkCard

/-- THE TIED CARD OF 'laws.FnGraphMoved'. -/
def fnGraphMovedCard : Claim7 := { stood := { row := fnGraphMovedRow, standIns := [], harness := (true, "7861fd204bf3ad1d655d48d06860888a5b7e8c5b85bf531caae879fd26846ad3"), looks := false }, kinds := [], alts := [], laidByText := true, laidKinds := [.data], laidTests := true, laidLooks := .later }
def FnGraphMovedCardSaid : Prop := Claim7.holds Tryd.pinned (.plain (OpenSpec.ofChange fnGraphMovedSpec)) fnGraphMovedCard

/-- THE TIED CARD OF 'laws.FnOrderThen'. -/
def fnOrderThenCard : Claim7 := { stood := { row := fnOrderThenRow, standIns := [], harness := (true, "7861fd204bf3ad1d655d48d06860888a5b7e8c5b85bf531caae879fd26846ad3"), looks := false }, kinds := [], alts := [], laidByText := true, laidKinds := [.data], laidTests := true, laidLooks := .later }
def FnOrderThenCardSaid : Prop := Claim7.holds Tryd.pinned (.plain (OpenSpec.ofChange fnOrderThenSpec)) fnOrderThenCard

/-- THE TIED CARD OF 'laws.FnOrderBack'. -/
def fnOrderBackCard : Claim7 := { stood := { row := fnOrderBackRow, standIns := [], harness := (true, "7861fd204bf3ad1d655d48d06860888a5b7e8c5b85bf531caae879fd26846ad3"), looks := false }, kinds := [], alts := [], laidByText := true, laidKinds := [.data], laidTests := true, laidLooks := .later }
def FnOrderBackCardSaid : Prop := Claim7.holds Tryd.pinned (.plain (OpenSpec.ofChange fnOrderBackSpec)) fnOrderBackCard

/-- THE TIED CARD OF 'laws.FnOrdersBetween'. -/
def fnOrdersBetweenCard : Claim7 := { stood := { row := fnOrdersBetweenRow, standIns := [], harness := (true, "7861fd204bf3ad1d655d48d06860888a5b7e8c5b85bf531caae879fd26846ad3"), looks := false }, kinds := [], alts := [], goes := true, laidByText := true, laidKinds := [.data], laidTests := true, laidLooks := .later }
def FnOrdersBetweenCardSaid : Prop := Claim7.holds Tryd.pinned (.plain (OpenSpec.ofChange fnOrdersBetweenSpec)) fnOrdersBetweenCard

/-- THE TIED CARD OF 'laws.FnTurnOk'. -/
def fnTurnOkCard : Claim7 := { stood := { row := fnTurnOkRow, standIns := [], harness := (true, "7861fd204bf3ad1d655d48d06860888a5b7e8c5b85bf531caae879fd26846ad3"), looks := false }, kinds := [], alts := [], laidByText := true, laidKinds := [.data], laidTests := true, laidLooks := .later }
def FnTurnOkCardSaid : Prop := Claim7.holds Tryd.pinned (.plain (OpenSpec.ofChange fnTurnOkSpec)) fnTurnOkCard

/-- THE TIED CARD OF 'laws.FnTurnOf'. -/
def fnTurnOfCard : Claim7 := { stood := { row := fnTurnOfRow, standIns := [], harness := (true, "7861fd204bf3ad1d655d48d06860888a5b7e8c5b85bf531caae879fd26846ad3"), looks := false }, kinds := [], alts := [], laidByText := true, laidKinds := [.data], laidTests := true, laidLooks := .later }
def FnTurnOfCardSaid : Prop := Claim7.holds Tryd.pinned (.plain (OpenSpec.ofChange fnTurnOfSpec)) fnTurnOfCard

/-- THE TIED CARD OF 'laws.FnTurnMade'. -/
def fnTurnMadeCard : Claim7 := { stood := { row := fnTurnMadeRow, standIns := [], harness := (true, "7861fd204bf3ad1d655d48d06860888a5b7e8c5b85bf531caae879fd26846ad3"), looks := false }, kinds := [], alts := [], laidByText := true, laidKinds := [.data], laidTests := true, laidLooks := .later }
def FnTurnMadeCardSaid : Prop := Claim7.holds Tryd.pinned (.plain (OpenSpec.ofChange fnTurnMadeSpec)) fnTurnMadeCard

/-- THE TIED CARD OF 'laws.FnOrderFrom'. -/
def fnOrderFromCard : Claim7 := { stood := { row := fnOrderFromRow, standIns := [], harness := (true, "7861fd204bf3ad1d655d48d06860888a5b7e8c5b85bf531caae879fd26846ad3"), looks := false }, kinds := [], alts := [], laidByText := true, laidKinds := [.data], laidTests := true, laidLooks := .later }
def FnOrderFromCardSaid : Prop := Claim7.holds Tryd.pinned (.plain (OpenSpec.ofChange fnOrderFromSpec)) fnOrderFromCard

/-- THE TIED CARD OF 'laws.FnTurnTable'. -/
def fnTurnTableCard : Claim7 := { stood := { row := fnTurnTableRow, standIns := [], harness := (true, "7861fd204bf3ad1d655d48d06860888a5b7e8c5b85bf531caae879fd26846ad3"), looks := false }, kinds := [], alts := [], goes := true, laidByText := true, laidKinds := [.data], laidTests := true, laidLooks := .later }
def FnTurnTableCardSaid : Prop := Claim7.holds Tryd.pinned (.plain (OpenSpec.ofChange fnTurnTableSpec)) fnTurnTableCard

/-- THE SECOND FORM's CARD OF 'laws.FnGraphOk'. -/
def fnGraphOkUptoCard : Claim7 := { stood := { row := fnGraphOkUptoRow, standIns := [], harness := (true, "7861fd204bf3ad1d655d48d06860888a5b7e8c5b85bf531caae879fd26846ad3"), looks := false }, kinds := [], alts := [], laidByText := true, laidKinds := [.data], laidTests := true, laidLooks := .later }
def FnGraphOkUptoCardSaid : Prop := Claim7.holds Tryd.pinned (.plain (OpenSpec.upto fnGraphOkSpec)) fnGraphOkUptoCard

/-- THE SECOND FORM's CARD OF 'laws.FnOrderOk'. -/
def fnOrderOkUptoCard : Claim7 := { stood := { row := fnOrderOkUptoRow, standIns := [], harness := (true, "7861fd204bf3ad1d655d48d06860888a5b7e8c5b85bf531caae879fd26846ad3"), looks := false }, kinds := [], alts := [], laidByText := true, laidKinds := [.data], laidTests := true, laidLooks := .later }
def FnOrderOkUptoCardSaid : Prop := Claim7.holds Tryd.pinned (.plain (OpenSpec.upto fnOrderOkSpec)) fnOrderOkUptoCard

/-- THE SECOND FORM's CARD OF 'laws.FnGraphMoved'. -/
def fnGraphMovedUptoCard : Claim7 := { stood := { row := fnGraphMovedUptoRow, standIns := [], harness := (true, "7861fd204bf3ad1d655d48d06860888a5b7e8c5b85bf531caae879fd26846ad3"), looks := false }, kinds := [], alts := [], laidByText := true, laidKinds := [.data], laidTests := true, laidLooks := .later }
def FnGraphMovedUptoCardSaid : Prop := Claim7.holds Tryd.pinned (.plain (OpenSpec.upto fnGraphMovedSpec)) fnGraphMovedUptoCard

/-- THE SECOND FORM's CARD OF 'laws.FnOrderThen'. -/
def fnOrderThenUptoCard : Claim7 := { stood := { row := fnOrderThenUptoRow, standIns := [], harness := (true, "7861fd204bf3ad1d655d48d06860888a5b7e8c5b85bf531caae879fd26846ad3"), looks := false }, kinds := [], alts := [], laidByText := true, laidKinds := [.data], laidTests := true, laidLooks := .later }
def FnOrderThenUptoCardSaid : Prop := Claim7.holds Tryd.pinned (.plain (OpenSpec.upto fnOrderThenSpec)) fnOrderThenUptoCard

/-- THE SECOND FORM's CARD OF 'laws.FnOrderBack'. -/
def fnOrderBackUptoCard : Claim7 := { stood := { row := fnOrderBackUptoRow, standIns := [], harness := (true, "7861fd204bf3ad1d655d48d06860888a5b7e8c5b85bf531caae879fd26846ad3"), looks := false }, kinds := [], alts := [], laidByText := true, laidKinds := [.data], laidTests := true, laidLooks := .later }
def FnOrderBackUptoCardSaid : Prop := Claim7.holds Tryd.pinned (.plain (OpenSpec.upto fnOrderBackSpec)) fnOrderBackUptoCard

/-- THE SECOND FORM's CARD OF 'laws.FnOrdersBetween'. -/
def fnOrdersBetweenUptoCard : Claim7 := { stood := { row := fnOrdersBetweenUptoRow, standIns := [], harness := (true, "7861fd204bf3ad1d655d48d06860888a5b7e8c5b85bf531caae879fd26846ad3"), looks := false }, kinds := [], alts := [], goes := true, laidByText := true, laidKinds := [.data], laidTests := true, laidLooks := .later }
def FnOrdersBetweenUptoCardSaid : Prop := Claim7.holds Tryd.pinned (.plain (OpenSpec.upto fnOrdersBetweenSpec)) fnOrdersBetweenUptoCard

/-- THE SECOND FORM's CARD OF 'laws.FnTurnOk'. -/
def fnTurnOkUptoCard : Claim7 := { stood := { row := fnTurnOkUptoRow, standIns := [], harness := (true, "7861fd204bf3ad1d655d48d06860888a5b7e8c5b85bf531caae879fd26846ad3"), looks := false }, kinds := [], alts := [], laidByText := true, laidKinds := [.data], laidTests := true, laidLooks := .later }
def FnTurnOkUptoCardSaid : Prop := Claim7.holds Tryd.pinned (.plain (OpenSpec.upto fnTurnOkSpec)) fnTurnOkUptoCard

/-- THE SECOND FORM's CARD OF 'laws.FnTurnOf'. -/
def fnTurnOfUptoCard : Claim7 := { stood := { row := fnTurnOfUptoRow, standIns := [], harness := (true, "7861fd204bf3ad1d655d48d06860888a5b7e8c5b85bf531caae879fd26846ad3"), looks := false }, kinds := [], alts := [], laidByText := true, laidKinds := [.data], laidTests := true, laidLooks := .later }
def FnTurnOfUptoCardSaid : Prop := Claim7.holds Tryd.pinned (.plain (OpenSpec.upto fnTurnOfSpec)) fnTurnOfUptoCard

/-- THE SECOND FORM's CARD OF 'laws.FnTurnMade'. -/
def fnTurnMadeUptoCard : Claim7 := { stood := { row := fnTurnMadeUptoRow, standIns := [], harness := (true, "7861fd204bf3ad1d655d48d06860888a5b7e8c5b85bf531caae879fd26846ad3"), looks := false }, kinds := [], alts := [], laidByText := true, laidKinds := [.data], laidTests := true, laidLooks := .later }
def FnTurnMadeUptoCardSaid : Prop := Claim7.holds Tryd.pinned (.plain (OpenSpec.upto fnTurnMadeSpec)) fnTurnMadeUptoCard

/-- THE SECOND FORM's CARD OF 'laws.FnOrderFrom'. -/
def fnOrderFromUptoCard : Claim7 := { stood := { row := fnOrderFromUptoRow, standIns := [], harness := (true, "7861fd204bf3ad1d655d48d06860888a5b7e8c5b85bf531caae879fd26846ad3"), looks := false }, kinds := [], alts := [], laidByText := true, laidKinds := [.data], laidTests := true, laidLooks := .later }
def FnOrderFromUptoCardSaid : Prop := Claim7.holds Tryd.pinned (.plain (OpenSpec.upto fnOrderFromSpec)) fnOrderFromUptoCard

/-- THE SECOND FORM's CARD OF 'laws.FnTurnTable'. -/
def fnTurnTableUptoCard : Claim7 := { stood := { row := fnTurnTableUptoRow, standIns := [], harness := (true, "7861fd204bf3ad1d655d48d06860888a5b7e8c5b85bf531caae879fd26846ad3"), looks := false }, kinds := [], alts := [], goes := true, laidByText := true, laidKinds := [.data], laidTests := true, laidLooks := .later }
def FnTurnTableUptoCardSaid : Prop := Claim7.holds Tryd.pinned (.plain (OpenSpec.upto fnTurnTableSpec)) fnTurnTableUptoCard
end Rows
end Go.Proofs.YtipndddmjgjgpabDoor
