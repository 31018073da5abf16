/-
  DERIVED. GIVEN WITH THE SEED: THE CARDS: each row of YtimkmdedoacpfabDoorRows.lean that lists a variable, with what it lists TIED to the program's text (the seventh form; the later family's looks); each row that meets fmt, with fmt's text TOLD by the authors' own Lean function (tested against real Go, not proved from fmt's source: count such statements apart). THE CARD IS WHAT COUNTS. Prove the row's statement (the work); the ties are given (YtimkmdedoacpfabDoorTie.lean); close each card by the builder's one call (the guide's Derived/Test/ToyasCard.lean, 'card_holds'). Laid BY PROGRAM, IN A SANDBOX (cutbox-door.mjs). By AI agents, Wed Nov 11 2026. No macro, syntax, notation, axiom, sorry.
-/
import Derived.Test.YtimkmdedoacpfabDoorRows
import GoSem.ClaimSeven
namespace Go.Proofs.YtimkmdedoacpfabDoor
namespace Rows

/-- THE TIED CARD OF 'laws.FnFailsOf'. -/
def fnFailsOfCard : Claim7 := { stood := { row := fnFailsOfRow, standIns := [], harness := (true, "511bc037596eddab989d4181a421d66cca3ac7e04efa98ee5e295b800253d7bc"), looks := false }, kinds := [], alts := [], laidByText := true, laidKinds := [.data], laidTests := true, laidLooks := .later }
def FnFailsOfCardSaid : Prop := Claim7.holds Tryd.pinned (.plain (OpenSpec.ofChange fnFailsOfSpec)) fnFailsOfCard

/-- THE TIED CARD OF 'laws.FnColoured'. -/
def fnColouredCard : Claim7 := { stood := { row := fnColouredRow, standIns := [], harness := (true, "511bc037596eddab989d4181a421d66cca3ac7e04efa98ee5e295b800253d7bc"), looks := false }, kinds := [], alts := [], laidByText := true, laidKinds := [.data], laidTests := true, laidLooks := .later }
def FnColouredCardSaid : Prop := Claim7.holds Tryd.pinned (.plain (OpenSpec.ofChange fnColouredSpec)) fnColouredCard

/-- THE TIED CARD OF 'laws.FnColoursOf'. -/
def fnColoursOfCard : Claim7 := { stood := { row := fnColoursOfRow, standIns := [], harness := (true, "511bc037596eddab989d4181a421d66cca3ac7e04efa98ee5e295b800253d7bc"), looks := false }, kinds := [], alts := [], laidByText := true, laidKinds := [.data], laidTests := true, laidLooks := .later }
def FnColoursOfCardSaid : Prop := Claim7.holds Tryd.pinned (.plain (OpenSpec.ofChange fnColoursOfSpec)) fnColoursOfCard

/-- THE TIED CARD OF 'laws.FnPainted'. -/
def fnPaintedCard : Claim7 := { stood := { row := fnPaintedRow, standIns := [], harness := (true, "511bc037596eddab989d4181a421d66cca3ac7e04efa98ee5e295b800253d7bc"), looks := false }, kinds := [], alts := [], laidByText := true, laidKinds := [.data], laidTests := true, laidLooks := .later }
def FnPaintedCardSaid : Prop := Claim7.holds Tryd.pinned (.plain (OpenSpec.ofChange fnPaintedSpec)) fnPaintedCard

/-- THE TIED CARD OF 'laws.FnViewsOf'. -/
def fnViewsOfCard : Claim7 := { stood := { row := fnViewsOfRow, standIns := [], harness := (true, "511bc037596eddab989d4181a421d66cca3ac7e04efa98ee5e295b800253d7bc"), looks := false }, kinds := [], alts := [], laidByText := true, laidKinds := [.data], laidTests := true, laidLooks := .later }
def FnViewsOfCardSaid : Prop := Claim7.holds Tryd.pinned (.plain (OpenSpec.ofChange fnViewsOfSpec)) fnViewsOfCard

/-- THE TIED CARD OF 'laws.FnViewsMade'. -/
def fnViewsMadeCard : Claim7 := { stood := { row := fnViewsMadeRow, standIns := [], harness := (true, "511bc037596eddab989d4181a421d66cca3ac7e04efa98ee5e295b800253d7bc"), looks := false }, kinds := [], alts := [], laidByText := true, laidKinds := [.data], laidTests := true, laidLooks := .later }
def FnViewsMadeCardSaid : Prop := Claim7.holds Tryd.pinned (.plain (OpenSpec.ofChange fnViewsMadeSpec)) fnViewsMadeCard

/-- THE TIED CARD OF 'laws.FnBestCheat'. -/
def fnBestCheatCard : Claim7 := { stood := { row := fnBestCheatRow, standIns := [], harness := (true, "511bc037596eddab989d4181a421d66cca3ac7e04efa98ee5e295b800253d7bc"), looks := false }, kinds := [], alts := [], laidByText := true, laidKinds := [.data], laidTests := true, laidLooks := .later }
def FnBestCheatCardSaid : Prop := Claim7.holds Tryd.pinned (.plain (OpenSpec.ofChange fnBestCheatSpec)) fnBestCheatCard

/-- THE TIED CARD OF 'laws.FnFoundOut'. -/
def fnFoundOutCard : Claim7 := { stood := { row := fnFoundOutRow, standIns := [], harness := (true, "511bc037596eddab989d4181a421d66cca3ac7e04efa98ee5e295b800253d7bc"), looks := false }, kinds := [], alts := [], laidByText := true, laidKinds := [.data], laidTests := true, laidLooks := .later }
def FnFoundOutCardSaid : Prop := Claim7.holds Tryd.pinned (.plain (OpenSpec.ofChange fnFoundOutSpec)) fnFoundOutCard

/-- THE TIED CARD OF 'laws.FnOrdersBetween'. -/
def fnOrdersBetweenCard : Claim7 := { stood := { row := fnOrdersBetweenRow, standIns := [], harness := (true, "511bc037596eddab989d4181a421d66cca3ac7e04efa98ee5e295b800253d7bc"), looks := false }, kinds := [], alts := [], laidByText := true, laidKinds := [.data], laidTests := true, laidLooks := .later }
def FnOrdersBetweenCardSaid : Prop := Claim7.holds Tryd.pinned (.plain (OpenSpec.ofChange fnOrdersBetweenSpec)) fnOrdersBetweenCard

/-- THE TIED CARD OF 'laws.FnOrderOk'. -/
def fnOrderOkCard : Claim7 := { stood := { row := fnOrderOkRow, standIns := [], harness := (true, "511bc037596eddab989d4181a421d66cca3ac7e04efa98ee5e295b800253d7bc"), looks := false }, kinds := [], alts := [], laidByText := true, laidKinds := [.data], laidTests := true, laidLooks := .later }
def FnOrderOkCardSaid : Prop := Claim7.holds Tryd.pinned (.plain (OpenSpec.ofChange fnOrderOkSpec)) fnOrderOkCard

/-- THE TIED CARD OF 'laws.FnGraphOk'. -/
def fnGraphOkCard : Claim7 := { stood := { row := fnGraphOkRow, standIns := [], harness := (true, "511bc037596eddab989d4181a421d66cca3ac7e04efa98ee5e295b800253d7bc"), looks := false }, kinds := [], alts := [], laidByText := true, laidKinds := [.data], laidTests := true, laidLooks := .later }
def FnGraphOkCardSaid : Prop := Claim7.holds Tryd.pinned (.plain (OpenSpec.ofChange fnGraphOkSpec)) fnGraphOkCard

/-- THE TIED CARD OF 'laws.FnOrderBack'. -/
def fnOrderBackCard : Claim7 := { stood := { row := fnOrderBackRow, standIns := [], harness := (true, "511bc037596eddab989d4181a421d66cca3ac7e04efa98ee5e295b800253d7bc"), looks := false }, kinds := [], alts := [], laidByText := true, laidKinds := [.data], laidTests := true, laidLooks := .later }
def FnOrderBackCardSaid : Prop := Claim7.holds Tryd.pinned (.plain (OpenSpec.ofChange fnOrderBackSpec)) fnOrderBackCard

/-- THE SECOND FORM's CARD OF 'laws.FnFailsOf'. -/
def fnFailsOfUptoCard : Claim7 := { stood := { row := fnFailsOfUptoRow, standIns := [], harness := (true, "511bc037596eddab989d4181a421d66cca3ac7e04efa98ee5e295b800253d7bc"), looks := false }, kinds := [], alts := [], laidByText := true, laidKinds := [.data], laidTests := true, laidLooks := .later }
def FnFailsOfUptoCardSaid : Prop := Claim7.holds Tryd.pinned (.plain (OpenSpec.upto fnFailsOfSpec)) fnFailsOfUptoCard

/-- THE SECOND FORM's CARD OF 'laws.FnColoured'. -/
def fnColouredUptoCard : Claim7 := { stood := { row := fnColouredUptoRow, standIns := [], harness := (true, "511bc037596eddab989d4181a421d66cca3ac7e04efa98ee5e295b800253d7bc"), looks := false }, kinds := [], alts := [], laidByText := true, laidKinds := [.data], laidTests := true, laidLooks := .later }
def FnColouredUptoCardSaid : Prop := Claim7.holds Tryd.pinned (.plain (OpenSpec.upto fnColouredSpec)) fnColouredUptoCard

/-- THE SECOND FORM's CARD OF 'laws.FnColoursOf'. -/
def fnColoursOfUptoCard : Claim7 := { stood := { row := fnColoursOfUptoRow, standIns := [], harness := (true, "511bc037596eddab989d4181a421d66cca3ac7e04efa98ee5e295b800253d7bc"), looks := false }, kinds := [], alts := [], laidByText := true, laidKinds := [.data], laidTests := true, laidLooks := .later }
def FnColoursOfUptoCardSaid : Prop := Claim7.holds Tryd.pinned (.plain (OpenSpec.upto fnColoursOfSpec)) fnColoursOfUptoCard

/-- THE SECOND FORM's CARD OF 'laws.FnPainted'. -/
def fnPaintedUptoCard : Claim7 := { stood := { row := fnPaintedUptoRow, standIns := [], harness := (true, "511bc037596eddab989d4181a421d66cca3ac7e04efa98ee5e295b800253d7bc"), looks := false }, kinds := [], alts := [], laidByText := true, laidKinds := [.data], laidTests := true, laidLooks := .later }
def FnPaintedUptoCardSaid : Prop := Claim7.holds Tryd.pinned (.plain (OpenSpec.upto fnPaintedSpec)) fnPaintedUptoCard

/-- THE SECOND FORM's CARD OF 'laws.FnViewsOf'. -/
def fnViewsOfUptoCard : Claim7 := { stood := { row := fnViewsOfUptoRow, standIns := [], harness := (true, "511bc037596eddab989d4181a421d66cca3ac7e04efa98ee5e295b800253d7bc"), looks := false }, kinds := [], alts := [], laidByText := true, laidKinds := [.data], laidTests := true, laidLooks := .later }
def FnViewsOfUptoCardSaid : Prop := Claim7.holds Tryd.pinned (.plain (OpenSpec.upto fnViewsOfSpec)) fnViewsOfUptoCard

/-- THE SECOND FORM's CARD OF 'laws.FnViewsMade'. -/
def fnViewsMadeUptoCard : Claim7 := { stood := { row := fnViewsMadeUptoRow, standIns := [], harness := (true, "511bc037596eddab989d4181a421d66cca3ac7e04efa98ee5e295b800253d7bc"), looks := false }, kinds := [], alts := [], laidByText := true, laidKinds := [.data], laidTests := true, laidLooks := .later }
def FnViewsMadeUptoCardSaid : Prop := Claim7.holds Tryd.pinned (.plain (OpenSpec.upto fnViewsMadeSpec)) fnViewsMadeUptoCard

/-- THE SECOND FORM's CARD OF 'laws.FnBestCheat'. -/
def fnBestCheatUptoCard : Claim7 := { stood := { row := fnBestCheatUptoRow, standIns := [], harness := (true, "511bc037596eddab989d4181a421d66cca3ac7e04efa98ee5e295b800253d7bc"), looks := false }, kinds := [], alts := [], laidByText := true, laidKinds := [.data], laidTests := true, laidLooks := .later }
def FnBestCheatUptoCardSaid : Prop := Claim7.holds Tryd.pinned (.plain (OpenSpec.upto fnBestCheatSpec)) fnBestCheatUptoCard

/-- THE SECOND FORM's CARD OF 'laws.FnFoundOut'. -/
def fnFoundOutUptoCard : Claim7 := { stood := { row := fnFoundOutUptoRow, standIns := [], harness := (true, "511bc037596eddab989d4181a421d66cca3ac7e04efa98ee5e295b800253d7bc"), looks := false }, kinds := [], alts := [], laidByText := true, laidKinds := [.data], laidTests := true, laidLooks := .later }
def FnFoundOutUptoCardSaid : Prop := Claim7.holds Tryd.pinned (.plain (OpenSpec.upto fnFoundOutSpec)) fnFoundOutUptoCard

/-- THE SECOND FORM's CARD OF 'laws.FnOrdersBetween'. -/
def fnOrdersBetweenUptoCard : Claim7 := { stood := { row := fnOrdersBetweenUptoRow, standIns := [], harness := (true, "511bc037596eddab989d4181a421d66cca3ac7e04efa98ee5e295b800253d7bc"), looks := false }, kinds := [], alts := [], laidByText := true, laidKinds := [.data], laidTests := true, laidLooks := .later }
def FnOrdersBetweenUptoCardSaid : Prop := Claim7.holds Tryd.pinned (.plain (OpenSpec.upto fnOrdersBetweenSpec)) fnOrdersBetweenUptoCard

/-- THE SECOND FORM's CARD OF 'laws.FnOrderOk'. -/
def fnOrderOkUptoCard : Claim7 := { stood := { row := fnOrderOkUptoRow, standIns := [], harness := (true, "511bc037596eddab989d4181a421d66cca3ac7e04efa98ee5e295b800253d7bc"), looks := false }, kinds := [], alts := [], laidByText := true, laidKinds := [.data], laidTests := true, laidLooks := .later }
def FnOrderOkUptoCardSaid : Prop := Claim7.holds Tryd.pinned (.plain (OpenSpec.upto fnOrderOkSpec)) fnOrderOkUptoCard

/-- THE SECOND FORM's CARD OF 'laws.FnGraphOk'. -/
def fnGraphOkUptoCard : Claim7 := { stood := { row := fnGraphOkUptoRow, standIns := [], harness := (true, "511bc037596eddab989d4181a421d66cca3ac7e04efa98ee5e295b800253d7bc"), looks := false }, kinds := [], alts := [], laidByText := true, laidKinds := [.data], laidTests := true, laidLooks := .later }
def FnGraphOkUptoCardSaid : Prop := Claim7.holds Tryd.pinned (.plain (OpenSpec.upto fnGraphOkSpec)) fnGraphOkUptoCard

/-- THE SECOND FORM's CARD OF 'laws.FnOrderBack'. -/
def fnOrderBackUptoCard : Claim7 := { stood := { row := fnOrderBackUptoRow, standIns := [], harness := (true, "511bc037596eddab989d4181a421d66cca3ac7e04efa98ee5e295b800253d7bc"), looks := false }, kinds := [], alts := [], laidByText := true, laidKinds := [.data], laidTests := true, laidLooks := .later }
def FnOrderBackUptoCardSaid : Prop := Claim7.holds Tryd.pinned (.plain (OpenSpec.upto fnOrderBackSpec)) fnOrderBackUptoCard
end Rows
end Go.Proofs.YtimkmdedoacpfabDoor
