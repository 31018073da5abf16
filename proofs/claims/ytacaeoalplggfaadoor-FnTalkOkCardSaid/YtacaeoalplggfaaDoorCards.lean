/-
  DERIVED. GIVEN WITH THE SEED: THE CARDS: each row of YtacaeoalplggfaaDoorRows.lean that lists a variable, with what it lists TIED to the program's text (the seventh form; the later family's looks); each row that meets fmt, with fmt's text TOLD by the authors' own Lean function (tested against real Go, not proved from fmt's source: count such statements apart). THE CARD IS WHAT COUNTS. Prove the row's statement (the work); the ties are given (YtacaeoalplggfaaDoorTie.lean); close each card by the builder's one call (the guide's Derived/Test/ToyasCard.lean, 'card_holds'). Laid BY PROGRAM, IN A SANDBOX (cutbox-door.mjs). By AI agents, Wed Nov 11 2026. No macro, syntax, notation, axiom, sorry.
-/
import Derived.Test.YtacaeoalplggfaaDoorRows
import GoSem.ClaimSeven
namespace Go.Proofs.YtacaeoalplggfaaDoor
namespace Rows

/-- THE TIED CARD OF 'laws.FnKeyOf'. -/
def fnKeyOfCard : Claim7 := { stood := { row := fnKeyOfRow, standIns := [], harness := (true, "aac42adb3ef85c8f681e2eeb2517adc49fbfc203aa7a961e4249a90c821d9217"), looks := false }, kinds := [], alts := [], laidByText := true, laidKinds := [.data], laidTests := true, laidLooks := .later }
def FnKeyOfCardSaid : Prop := Claim7.holds Tryd.pinned (.plain (OpenSpec.ofChange fnKeyOfSpec)) fnKeyOfCard

/-- THE TIED CARD OF 'laws.FnTalkOf'. -/
def fnTalkOfCard : Claim7 := { stood := { row := fnTalkOfRow, standIns := [], harness := (true, "aac42adb3ef85c8f681e2eeb2517adc49fbfc203aa7a961e4249a90c821d9217"), looks := false }, kinds := [], alts := [], laidByText := true, laidKinds := [.data], laidTests := true, laidLooks := .later }
def FnTalkOfCardSaid : Prop := Claim7.holds Tryd.pinned (.plain (OpenSpec.ofChange fnTalkOfSpec)) fnTalkOfCard

/-- THE TIED CARD OF 'laws.FnTalkOk'. -/
def fnTalkOkCard : Claim7 := { stood := { row := fnTalkOkRow, standIns := [], harness := (true, "aac42adb3ef85c8f681e2eeb2517adc49fbfc203aa7a961e4249a90c821d9217"), looks := false }, kinds := [], alts := [], laidByText := true, laidKinds := [.data], laidTests := true, laidLooks := .later }
def FnTalkOkCardSaid : Prop := Claim7.holds Tryd.pinned (.plain (OpenSpec.ofChange fnTalkOkSpec)) fnTalkOkCard

/-- THE TIED CARD OF 'laws.FnMadeUp'. -/
def fnMadeUpCard : Claim7 := { stood := { row := fnMadeUpRow, standIns := [], harness := (true, "aac42adb3ef85c8f681e2eeb2517adc49fbfc203aa7a961e4249a90c821d9217"), looks := false }, kinds := [], alts := [], laidByText := true, laidKinds := [.data], laidTests := true, laidLooks := .later }
def FnMadeUpCardSaid : Prop := Claim7.holds Tryd.pinned (.plain (OpenSpec.ofChange fnMadeUpSpec)) fnMadeUpCard

/-- THE TIED CARD OF 'laws.FnSecretFrom'. -/
def fnSecretFromCard : Claim7 := { stood := { row := fnSecretFromRow, standIns := [], harness := (true, "aac42adb3ef85c8f681e2eeb2517adc49fbfc203aa7a961e4249a90c821d9217"), looks := false }, kinds := [], alts := [], laidByText := true, laidKinds := [.data], laidTests := true, laidLooks := .later }
def FnSecretFromCardSaid : Prop := Claim7.holds Tryd.pinned (.plain (OpenSpec.ofChange fnSecretFromSpec)) fnSecretFromCard

/-- THE TIED CARD OF 'laws.FnTalksMany'. -/
def fnTalksManyCard : Claim7 := { stood := { row := fnTalksManyRow, standIns := [], harness := (true, "aac42adb3ef85c8f681e2eeb2517adc49fbfc203aa7a961e4249a90c821d9217"), looks := false }, kinds := [], alts := [], laidByText := true, laidKinds := [.data], laidTests := true, laidLooks := .later }
def FnTalksManyCardSaid : Prop := Claim7.holds Tryd.pinned (.plain (OpenSpec.ofChange fnTalksManySpec)) fnTalksManyCard

/-- THE SECOND FORM's CARD OF 'laws.FnKeyOf'. -/
def fnKeyOfUptoCard : Claim7 := { stood := { row := fnKeyOfUptoRow, standIns := [], harness := (true, "aac42adb3ef85c8f681e2eeb2517adc49fbfc203aa7a961e4249a90c821d9217"), looks := false }, kinds := [], alts := [], laidByText := true, laidKinds := [.data], laidTests := true, laidLooks := .later }
def FnKeyOfUptoCardSaid : Prop := Claim7.holds Tryd.pinned (.plain (OpenSpec.upto fnKeyOfSpec)) fnKeyOfUptoCard

/-- THE SECOND FORM's CARD OF 'laws.FnTalkOf'. -/
def fnTalkOfUptoCard : Claim7 := { stood := { row := fnTalkOfUptoRow, standIns := [], harness := (true, "aac42adb3ef85c8f681e2eeb2517adc49fbfc203aa7a961e4249a90c821d9217"), looks := false }, kinds := [], alts := [], laidByText := true, laidKinds := [.data], laidTests := true, laidLooks := .later }
def FnTalkOfUptoCardSaid : Prop := Claim7.holds Tryd.pinned (.plain (OpenSpec.upto fnTalkOfSpec)) fnTalkOfUptoCard

/-- THE SECOND FORM's CARD OF 'laws.FnTalkOk'. -/
def fnTalkOkUptoCard : Claim7 := { stood := { row := fnTalkOkUptoRow, standIns := [], harness := (true, "aac42adb3ef85c8f681e2eeb2517adc49fbfc203aa7a961e4249a90c821d9217"), looks := false }, kinds := [], alts := [], laidByText := true, laidKinds := [.data], laidTests := true, laidLooks := .later }
def FnTalkOkUptoCardSaid : Prop := Claim7.holds Tryd.pinned (.plain (OpenSpec.upto fnTalkOkSpec)) fnTalkOkUptoCard

/-- THE SECOND FORM's CARD OF 'laws.FnMadeUp'. -/
def fnMadeUpUptoCard : Claim7 := { stood := { row := fnMadeUpUptoRow, standIns := [], harness := (true, "aac42adb3ef85c8f681e2eeb2517adc49fbfc203aa7a961e4249a90c821d9217"), looks := false }, kinds := [], alts := [], laidByText := true, laidKinds := [.data], laidTests := true, laidLooks := .later }
def FnMadeUpUptoCardSaid : Prop := Claim7.holds Tryd.pinned (.plain (OpenSpec.upto fnMadeUpSpec)) fnMadeUpUptoCard

/-- THE SECOND FORM's CARD OF 'laws.FnSecretFrom'. -/
def fnSecretFromUptoCard : Claim7 := { stood := { row := fnSecretFromUptoRow, standIns := [], harness := (true, "aac42adb3ef85c8f681e2eeb2517adc49fbfc203aa7a961e4249a90c821d9217"), looks := false }, kinds := [], alts := [], laidByText := true, laidKinds := [.data], laidTests := true, laidLooks := .later }
def FnSecretFromUptoCardSaid : Prop := Claim7.holds Tryd.pinned (.plain (OpenSpec.upto fnSecretFromSpec)) fnSecretFromUptoCard

/-- THE SECOND FORM's CARD OF 'laws.FnTalksMany'. -/
def fnTalksManyUptoCard : Claim7 := { stood := { row := fnTalksManyUptoRow, standIns := [], harness := (true, "aac42adb3ef85c8f681e2eeb2517adc49fbfc203aa7a961e4249a90c821d9217"), looks := false }, kinds := [], alts := [], laidByText := true, laidKinds := [.data], laidTests := true, laidLooks := .later }
def FnTalksManyUptoCardSaid : Prop := Claim7.holds Tryd.pinned (.plain (OpenSpec.upto fnTalksManySpec)) fnTalksManyUptoCard
end Rows
end Go.Proofs.YtacaeoalplggfaaDoor
