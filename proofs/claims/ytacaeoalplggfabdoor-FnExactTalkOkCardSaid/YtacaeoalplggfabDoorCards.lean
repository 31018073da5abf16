/-
  DERIVED. GIVEN WITH THE SEED: THE CARDS: each row of YtacaeoalplggfabDoorRows.lean that lists a variable, with what it lists TIED to the program's text (the seventh form; the later family's looks); each row that meets fmt, with fmt's text TOLD by the authors' own Lean function (tested against real Go, not proved from fmt's source: count such statements apart). THE CARD IS WHAT COUNTS. Prove the row's statement (the work); the ties are given (YtacaeoalplggfabDoorTie.lean); close each card by the builder's one call (the guide's Derived/Test/ToyasCard.lean, 'card_holds'). Laid BY PROGRAM, IN A SANDBOX (cutbox-door.mjs). By AI agents, Wed Nov 11 2026. No macro, syntax, notation, axiom, sorry.
-/
import Derived.Test.YtacaeoalplggfabDoorRows
import GoSem.ClaimSeven
namespace Go.Proofs.YtacaeoalplggfabDoor
namespace Rows

/-- THE TIED CARD OF 'laws.FnExactKeyOf'. -/
def fnExactKeyOfCard : Claim7 := { stood := { row := fnExactKeyOfRow, standIns := [], harness := (true, "3effa40051ec8a962b9b5933bd351bb5e6c6b5d100f00df4f134084fe4759bd5"), looks := false }, kinds := [], alts := [], laidByText := true, laidKinds := [.data], laidTests := true, laidLooks := .later }
def FnExactKeyOfCardSaid : Prop := Claim7.holds Tryd.pinned (.plain (OpenSpec.ofChange fnExactKeyOfSpec)) fnExactKeyOfCard

/-- THE TIED CARD OF 'laws.FnExactTalkOf'. -/
def fnExactTalkOfCard : Claim7 := { stood := { row := fnExactTalkOfRow, standIns := [], harness := (true, "3effa40051ec8a962b9b5933bd351bb5e6c6b5d100f00df4f134084fe4759bd5"), looks := false }, kinds := [], alts := [], laidByText := true, laidKinds := [.data], laidTests := true, laidLooks := .later }
def FnExactTalkOfCardSaid : Prop := Claim7.holds Tryd.pinned (.plain (OpenSpec.ofChange fnExactTalkOfSpec)) fnExactTalkOfCard

/-- THE TIED CARD OF 'laws.FnExactTalkOk'. -/
def fnExactTalkOkCard : Claim7 := { stood := { row := fnExactTalkOkRow, standIns := [], harness := (true, "3effa40051ec8a962b9b5933bd351bb5e6c6b5d100f00df4f134084fe4759bd5"), looks := false }, kinds := [], alts := [], laidByText := true, laidKinds := [.data], laidTests := true, laidLooks := .later }
def FnExactTalkOkCardSaid : Prop := Claim7.holds Tryd.pinned (.plain (OpenSpec.ofChange fnExactTalkOkSpec)) fnExactTalkOkCard

/-- THE TIED CARD OF 'laws.FnExactMadeUp'. -/
def fnExactMadeUpCard : Claim7 := { stood := { row := fnExactMadeUpRow, standIns := [], harness := (true, "3effa40051ec8a962b9b5933bd351bb5e6c6b5d100f00df4f134084fe4759bd5"), looks := false }, kinds := [], alts := [], laidByText := true, laidKinds := [.data], laidTests := true, laidLooks := .later }
def FnExactMadeUpCardSaid : Prop := Claim7.holds Tryd.pinned (.plain (OpenSpec.ofChange fnExactMadeUpSpec)) fnExactMadeUpCard

/-- THE TIED CARD OF 'laws.FnExactSecretFrom'. -/
def fnExactSecretFromCard : Claim7 := { stood := { row := fnExactSecretFromRow, standIns := [], harness := (true, "3effa40051ec8a962b9b5933bd351bb5e6c6b5d100f00df4f134084fe4759bd5"), looks := false }, kinds := [], alts := [], laidByText := true, laidKinds := [.data], laidTests := true, laidLooks := .later }
def FnExactSecretFromCardSaid : Prop := Claim7.holds Tryd.pinned (.plain (OpenSpec.ofChange fnExactSecretFromSpec)) fnExactSecretFromCard

/-- THE TIED CARD OF 'laws.FnExactTalksMany'. -/
def fnExactTalksManyCard : Claim7 := { stood := { row := fnExactTalksManyRow, standIns := [], harness := (true, "3effa40051ec8a962b9b5933bd351bb5e6c6b5d100f00df4f134084fe4759bd5"), looks := false }, kinds := [], alts := [], laidByText := true, laidKinds := [.data], laidTests := true, laidLooks := .later }
def FnExactTalksManyCardSaid : Prop := Claim7.holds Tryd.pinned (.plain (OpenSpec.ofChange fnExactTalksManySpec)) fnExactTalksManyCard

/-- THE SECOND FORM's CARD OF 'laws.FnExactKeyOf'. -/
def fnExactKeyOfUptoCard : Claim7 := { stood := { row := fnExactKeyOfUptoRow, standIns := [], harness := (true, "3effa40051ec8a962b9b5933bd351bb5e6c6b5d100f00df4f134084fe4759bd5"), looks := false }, kinds := [], alts := [], laidByText := true, laidKinds := [.data], laidTests := true, laidLooks := .later }
def FnExactKeyOfUptoCardSaid : Prop := Claim7.holds Tryd.pinned (.plain (OpenSpec.upto fnExactKeyOfSpec)) fnExactKeyOfUptoCard

/-- THE SECOND FORM's CARD OF 'laws.FnExactTalkOf'. -/
def fnExactTalkOfUptoCard : Claim7 := { stood := { row := fnExactTalkOfUptoRow, standIns := [], harness := (true, "3effa40051ec8a962b9b5933bd351bb5e6c6b5d100f00df4f134084fe4759bd5"), looks := false }, kinds := [], alts := [], laidByText := true, laidKinds := [.data], laidTests := true, laidLooks := .later }
def FnExactTalkOfUptoCardSaid : Prop := Claim7.holds Tryd.pinned (.plain (OpenSpec.upto fnExactTalkOfSpec)) fnExactTalkOfUptoCard

/-- THE SECOND FORM's CARD OF 'laws.FnExactTalkOk'. -/
def fnExactTalkOkUptoCard : Claim7 := { stood := { row := fnExactTalkOkUptoRow, standIns := [], harness := (true, "3effa40051ec8a962b9b5933bd351bb5e6c6b5d100f00df4f134084fe4759bd5"), looks := false }, kinds := [], alts := [], laidByText := true, laidKinds := [.data], laidTests := true, laidLooks := .later }
def FnExactTalkOkUptoCardSaid : Prop := Claim7.holds Tryd.pinned (.plain (OpenSpec.upto fnExactTalkOkSpec)) fnExactTalkOkUptoCard

/-- THE SECOND FORM's CARD OF 'laws.FnExactMadeUp'. -/
def fnExactMadeUpUptoCard : Claim7 := { stood := { row := fnExactMadeUpUptoRow, standIns := [], harness := (true, "3effa40051ec8a962b9b5933bd351bb5e6c6b5d100f00df4f134084fe4759bd5"), looks := false }, kinds := [], alts := [], laidByText := true, laidKinds := [.data], laidTests := true, laidLooks := .later }
def FnExactMadeUpUptoCardSaid : Prop := Claim7.holds Tryd.pinned (.plain (OpenSpec.upto fnExactMadeUpSpec)) fnExactMadeUpUptoCard

/-- THE SECOND FORM's CARD OF 'laws.FnExactSecretFrom'. -/
def fnExactSecretFromUptoCard : Claim7 := { stood := { row := fnExactSecretFromUptoRow, standIns := [], harness := (true, "3effa40051ec8a962b9b5933bd351bb5e6c6b5d100f00df4f134084fe4759bd5"), looks := false }, kinds := [], alts := [], laidByText := true, laidKinds := [.data], laidTests := true, laidLooks := .later }
def FnExactSecretFromUptoCardSaid : Prop := Claim7.holds Tryd.pinned (.plain (OpenSpec.upto fnExactSecretFromSpec)) fnExactSecretFromUptoCard

/-- THE SECOND FORM's CARD OF 'laws.FnExactTalksMany'. -/
def fnExactTalksManyUptoCard : Claim7 := { stood := { row := fnExactTalksManyUptoRow, standIns := [], harness := (true, "3effa40051ec8a962b9b5933bd351bb5e6c6b5d100f00df4f134084fe4759bd5"), looks := false }, kinds := [], alts := [], laidByText := true, laidKinds := [.data], laidTests := true, laidLooks := .later }
def FnExactTalksManyUptoCardSaid : Prop := Claim7.holds Tryd.pinned (.plain (OpenSpec.upto fnExactTalksManySpec)) fnExactTalksManyUptoCard
end Rows
end Go.Proofs.YtacaeoalplggfabDoor
