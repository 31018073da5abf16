/-
  DERIVED. GIVEN WITH THE SEED: THE CARDS: each row of YtiinifcepcaonaaDoorRows.lean that lists a variable, with what it lists TIED to the program's text (the seventh form; the later family's looks); each row that meets fmt, with fmt's text TOLD by the authors' own Lean function (tested against real Go, not proved from fmt's source: count such statements apart). THE CARD IS WHAT COUNTS. Prove the row's statement (the work); the ties are given (YtiinifcepcaonaaDoorTie.lean); close each card by the builder's one call (the guide's Derived/Test/ToyasCard.lean, 'card_holds'). Laid BY PROGRAM, IN A SANDBOX (cutbox-door.mjs). By AI agents, Wed Nov 11 2026. No macro, syntax, notation, axiom, sorry.
-/
import Derived.Test.YtiinifcepcaonaaDoorRows
import GoSem.ClaimSeven
namespace Go.Proofs.YtiinifcepcaonaaDoor
namespace Rows

/-- THE TIED CARD OF 'laws.FnExactBoardOk'. -/
def fnExactBoardOkCard : Claim7 := { stood := { row := fnExactBoardOkRow, standIns := [], harness := (true, "b21ba85be25fa27d5333262065687604148bbebd8b77664e136881b783e4a071"), looks := false }, kinds := [], alts := [], laidByText := true, laidKinds := [.data], laidTests := true, laidLooks := .later }
def FnExactBoardOkCardSaid : Prop := Claim7.holds Tryd.pinned (.plain (OpenSpec.ofChange fnExactBoardOkSpec)) fnExactBoardOkCard

/-- THE TIED CARD OF 'laws.FnExactKeysOn'. -/
def fnExactKeysOnCard : Claim7 := { stood := { row := fnExactKeysOnRow, standIns := [], harness := (true, "b21ba85be25fa27d5333262065687604148bbebd8b77664e136881b783e4a071"), looks := false }, kinds := [], alts := [], laidByText := true, laidKinds := [.data], laidTests := true, laidLooks := .later }
def FnExactKeysOnCardSaid : Prop := Claim7.holds Tryd.pinned (.plain (OpenSpec.ofChange fnExactKeysOnSpec)) fnExactKeysOnCard

/-- THE TIED CARD OF 'laws.FnExactLeakOf'. -/
def fnExactLeakOfCard : Claim7 := { stood := { row := fnExactLeakOfRow, standIns := [], harness := (true, "b21ba85be25fa27d5333262065687604148bbebd8b77664e136881b783e4a071"), looks := false }, kinds := [], alts := [], laidByText := true, laidKinds := [.data], laidTests := true, laidLooks := .later }
def FnExactLeakOfCardSaid : Prop := Claim7.holds Tryd.pinned (.plain (OpenSpec.ofChange fnExactLeakOfSpec)) fnExactLeakOfCard

/-- THE TIED CARD OF 'laws.FnBoardOk'. -/
def fnBoardOkCard : Claim7 := { stood := { row := fnBoardOkRow, standIns := [], harness := (true, "b21ba85be25fa27d5333262065687604148bbebd8b77664e136881b783e4a071"), looks := false }, kinds := [], alts := [], laidByText := true, laidKinds := [.data], laidTests := true, laidLooks := .later }
def FnBoardOkCardSaid : Prop := Claim7.holds Tryd.pinned (.plain (OpenSpec.ofChange fnBoardOkSpec)) fnBoardOkCard

/-- THE TIED CARD OF 'laws.FnBoardNew'. -/
def fnBoardNewCard : Claim7 := { stood := { row := fnBoardNewRow, standIns := [], harness := (true, "b21ba85be25fa27d5333262065687604148bbebd8b77664e136881b783e4a071"), looks := false }, kinds := [], alts := [], laidByText := true, laidKinds := [.data], laidTests := true, laidLooks := .later }
def FnBoardNewCardSaid : Prop := Claim7.holds Tryd.pinned (.plain (OpenSpec.ofChange fnBoardNewSpec)) fnBoardNewCard

/-- THE TIED CARD OF 'laws.FnKeysOn'. -/
def fnKeysOnCard : Claim7 := { stood := { row := fnKeysOnRow, standIns := [], harness := (true, "b21ba85be25fa27d5333262065687604148bbebd8b77664e136881b783e4a071"), looks := false }, kinds := [], alts := [], laidByText := true, laidKinds := [.data], laidTests := true, laidLooks := .later }
def FnKeysOnCardSaid : Prop := Claim7.holds Tryd.pinned (.plain (OpenSpec.ofChange fnKeysOnSpec)) fnKeysOnCard

/-- THE TIED CARD OF 'laws.FnLeakOf'. -/
def fnLeakOfCard : Claim7 := { stood := { row := fnLeakOfRow, standIns := [], harness := (true, "b21ba85be25fa27d5333262065687604148bbebd8b77664e136881b783e4a071"), looks := false }, kinds := [], alts := [], laidByText := true, laidKinds := [.data], laidTests := true, laidLooks := .later }
def FnLeakOfCardSaid : Prop := Claim7.holds Tryd.pinned (.plain (OpenSpec.ofChange fnLeakOfSpec)) fnLeakOfCard

/-- THE SECOND FORM's CARD OF 'laws.FnExactBoardOk'. -/
def fnExactBoardOkUptoCard : Claim7 := { stood := { row := fnExactBoardOkUptoRow, standIns := [], harness := (true, "b21ba85be25fa27d5333262065687604148bbebd8b77664e136881b783e4a071"), looks := false }, kinds := [], alts := [], laidByText := true, laidKinds := [.data], laidTests := true, laidLooks := .later }
def FnExactBoardOkUptoCardSaid : Prop := Claim7.holds Tryd.pinned (.plain (OpenSpec.upto fnExactBoardOkSpec)) fnExactBoardOkUptoCard

/-- THE SECOND FORM's CARD OF 'laws.FnExactKeysOn'. -/
def fnExactKeysOnUptoCard : Claim7 := { stood := { row := fnExactKeysOnUptoRow, standIns := [], harness := (true, "b21ba85be25fa27d5333262065687604148bbebd8b77664e136881b783e4a071"), looks := false }, kinds := [], alts := [], laidByText := true, laidKinds := [.data], laidTests := true, laidLooks := .later }
def FnExactKeysOnUptoCardSaid : Prop := Claim7.holds Tryd.pinned (.plain (OpenSpec.upto fnExactKeysOnSpec)) fnExactKeysOnUptoCard

/-- THE SECOND FORM's CARD OF 'laws.FnExactLeakOf'. -/
def fnExactLeakOfUptoCard : Claim7 := { stood := { row := fnExactLeakOfUptoRow, standIns := [], harness := (true, "b21ba85be25fa27d5333262065687604148bbebd8b77664e136881b783e4a071"), looks := false }, kinds := [], alts := [], laidByText := true, laidKinds := [.data], laidTests := true, laidLooks := .later }
def FnExactLeakOfUptoCardSaid : Prop := Claim7.holds Tryd.pinned (.plain (OpenSpec.upto fnExactLeakOfSpec)) fnExactLeakOfUptoCard

/-- THE SECOND FORM's CARD OF 'laws.FnBoardOk'. -/
def fnBoardOkUptoCard : Claim7 := { stood := { row := fnBoardOkUptoRow, standIns := [], harness := (true, "b21ba85be25fa27d5333262065687604148bbebd8b77664e136881b783e4a071"), looks := false }, kinds := [], alts := [], laidByText := true, laidKinds := [.data], laidTests := true, laidLooks := .later }
def FnBoardOkUptoCardSaid : Prop := Claim7.holds Tryd.pinned (.plain (OpenSpec.upto fnBoardOkSpec)) fnBoardOkUptoCard

/-- THE SECOND FORM's CARD OF 'laws.FnBoardNew'. -/
def fnBoardNewUptoCard : Claim7 := { stood := { row := fnBoardNewUptoRow, standIns := [], harness := (true, "b21ba85be25fa27d5333262065687604148bbebd8b77664e136881b783e4a071"), looks := false }, kinds := [], alts := [], laidByText := true, laidKinds := [.data], laidTests := true, laidLooks := .later }
def FnBoardNewUptoCardSaid : Prop := Claim7.holds Tryd.pinned (.plain (OpenSpec.upto fnBoardNewSpec)) fnBoardNewUptoCard

/-- THE SECOND FORM's CARD OF 'laws.FnKeysOn'. -/
def fnKeysOnUptoCard : Claim7 := { stood := { row := fnKeysOnUptoRow, standIns := [], harness := (true, "b21ba85be25fa27d5333262065687604148bbebd8b77664e136881b783e4a071"), looks := false }, kinds := [], alts := [], laidByText := true, laidKinds := [.data], laidTests := true, laidLooks := .later }
def FnKeysOnUptoCardSaid : Prop := Claim7.holds Tryd.pinned (.plain (OpenSpec.upto fnKeysOnSpec)) fnKeysOnUptoCard

/-- THE SECOND FORM's CARD OF 'laws.FnLeakOf'. -/
def fnLeakOfUptoCard : Claim7 := { stood := { row := fnLeakOfUptoRow, standIns := [], harness := (true, "b21ba85be25fa27d5333262065687604148bbebd8b77664e136881b783e4a071"), looks := false }, kinds := [], alts := [], laidByText := true, laidKinds := [.data], laidTests := true, laidLooks := .later }
def FnLeakOfUptoCardSaid : Prop := Claim7.holds Tryd.pinned (.plain (OpenSpec.upto fnLeakOfSpec)) fnLeakOfUptoCard
end Rows
end Go.Proofs.YtiinifcepcaonaaDoor
