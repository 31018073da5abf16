/-
  DERIVED. GIVEN WITH THE SEED: THE CARDS: each row of YtkcikhjobgackaaDoorRows.lean that lists a variable, with what it lists TIED to the program's text (the seventh form; the later family's looks); each row that meets fmt, with fmt's text TOLD by the authors' own Lean function (tested against real Go, not proved from fmt's source: count such statements apart). THE CARD IS WHAT COUNTS. Prove the row's statement (the work); the ties are given (YtkcikhjobgackaaDoorTie.lean); close each card by the builder's one call (the guide's Derived/Test/ToyasCard.lean, 'card_holds'). Laid BY PROGRAM, IN A SANDBOX (cutbox-door.mjs). By AI agents, Wed Nov 11 2026. No macro, syntax, notation, axiom, sorry.
-/
import Derived.Test.YtkcikhjobgackaaDoorRows
import GoSem.ClaimSeven
namespace Go.Proofs.YtkcikhjobgackaaDoor
namespace Rows

/-- THE TIED CARD OF 'laws.FnExactKeysOk'. -/
def fnExactKeysOkCard : Claim7 := { stood := { row := fnExactKeysOkRow, standIns := [], harness := (true, "ce463acc5a6f8fd4ed12f8c907611ba6cb600586703102e120498a906cd4dcef"), looks := false }, kinds := [], alts := [], laidByText := true, laidKinds := [.data], laidTests := true, laidLooks := .later }
def FnExactKeysOkCardSaid : Prop := Claim7.holds Tryd.pinned (.plain (OpenSpec.ofChange fnExactKeysOkSpec)) fnExactKeysOkCard

/-- THE TIED CARD OF 'laws.FnExactLinesUp'. -/
def fnExactLinesUpCard : Claim7 := { stood := { row := fnExactLinesUpRow, standIns := [], harness := (true, "ce463acc5a6f8fd4ed12f8c907611ba6cb600586703102e120498a906cd4dcef"), looks := false }, kinds := [], alts := [], laidByText := true, laidKinds := [.data], laidTests := true, laidLooks := .later }
def FnExactLinesUpCardSaid : Prop := Claim7.holds Tryd.pinned (.plain (OpenSpec.ofChange fnExactLinesUpSpec)) fnExactLinesUpCard

/-- THE TIED CARD OF 'laws.FnExactSomeOk'. -/
def fnExactSomeOkCard : Claim7 := { stood := { row := fnExactSomeOkRow, standIns := [], harness := (true, "ce463acc5a6f8fd4ed12f8c907611ba6cb600586703102e120498a906cd4dcef"), looks := false }, kinds := [], alts := [], laidByText := true, laidKinds := [.data], laidTests := true, laidLooks := .later }
def FnExactSomeOkCardSaid : Prop := Claim7.holds Tryd.pinned (.plain (OpenSpec.ofChange fnExactSomeOkSpec)) fnExactSomeOkCard

/-- THE TIED CARD OF 'laws.FnExactSomeOf'. -/
def fnExactSomeOfCard : Claim7 := { stood := { row := fnExactSomeOfRow, standIns := [], harness := (true, "ce463acc5a6f8fd4ed12f8c907611ba6cb600586703102e120498a906cd4dcef"), looks := false }, kinds := [], alts := [], laidByText := true, laidKinds := [.data], laidTests := true, laidLooks := .later }
def FnExactSomeOfCardSaid : Prop := Claim7.holds Tryd.pinned (.plain (OpenSpec.ofChange fnExactSomeOfSpec)) fnExactSomeOfCard

/-- THE TIED CARD OF 'laws.FnExactSecretsFrom'. -/
def fnExactSecretsFromCard : Claim7 := { stood := { row := fnExactSecretsFromRow, standIns := [], harness := (true, "ce463acc5a6f8fd4ed12f8c907611ba6cb600586703102e120498a906cd4dcef"), looks := false }, kinds := [], alts := [], laidByText := true, laidKinds := [.data], laidTests := true, laidLooks := .later }
def FnExactSecretsFromCardSaid : Prop := Claim7.holds Tryd.pinned (.plain (OpenSpec.ofChange fnExactSecretsFromSpec)) fnExactSecretsFromCard

/-- THE TIED CARD OF 'laws.FnExactSomeMany'. -/
def fnExactSomeManyCard : Claim7 := { stood := { row := fnExactSomeManyRow, standIns := [], harness := (true, "ce463acc5a6f8fd4ed12f8c907611ba6cb600586703102e120498a906cd4dcef"), looks := false }, kinds := [], alts := [], laidByText := true, laidKinds := [.data], laidTests := true, laidLooks := .later }
def FnExactSomeManyCardSaid : Prop := Claim7.holds Tryd.pinned (.plain (OpenSpec.ofChange fnExactSomeManySpec)) fnExactSomeManyCard

/-- THE TIED CARD OF 'laws.FnExactTalksBy'. -/
def fnExactTalksByCard : Claim7 := { stood := { row := fnExactTalksByRow, standIns := [], harness := (true, "ce463acc5a6f8fd4ed12f8c907611ba6cb600586703102e120498a906cd4dcef"), looks := false }, kinds := [], alts := [], laidByText := true, laidKinds := [.data], laidTests := true, laidLooks := .later }
def FnExactTalksByCardSaid : Prop := Claim7.holds Tryd.pinned (.plain (OpenSpec.ofChange fnExactTalksBySpec)) fnExactTalksByCard

/-- THE TIED CARD OF 'laws.FnExactClaimOk'. -/
def fnExactClaimOkCard : Claim7 := { stood := { row := fnExactClaimOkRow, standIns := [], harness := (true, "ce463acc5a6f8fd4ed12f8c907611ba6cb600586703102e120498a906cd4dcef"), looks := false }, kinds := [], alts := [], laidByText := true, laidKinds := [.data], laidTests := true, laidLooks := .later }
def FnExactClaimOkCardSaid : Prop := Claim7.holds Tryd.pinned (.plain (OpenSpec.ofChange fnExactClaimOkSpec)) fnExactClaimOkCard

/-- THE SECOND FORM's CARD OF 'laws.FnExactKeysOk'. -/
def fnExactKeysOkUptoCard : Claim7 := { stood := { row := fnExactKeysOkUptoRow, standIns := [], harness := (true, "ce463acc5a6f8fd4ed12f8c907611ba6cb600586703102e120498a906cd4dcef"), looks := false }, kinds := [], alts := [], laidByText := true, laidKinds := [.data], laidTests := true, laidLooks := .later }
def FnExactKeysOkUptoCardSaid : Prop := Claim7.holds Tryd.pinned (.plain (OpenSpec.upto fnExactKeysOkSpec)) fnExactKeysOkUptoCard

/-- THE SECOND FORM's CARD OF 'laws.FnExactLinesUp'. -/
def fnExactLinesUpUptoCard : Claim7 := { stood := { row := fnExactLinesUpUptoRow, standIns := [], harness := (true, "ce463acc5a6f8fd4ed12f8c907611ba6cb600586703102e120498a906cd4dcef"), looks := false }, kinds := [], alts := [], laidByText := true, laidKinds := [.data], laidTests := true, laidLooks := .later }
def FnExactLinesUpUptoCardSaid : Prop := Claim7.holds Tryd.pinned (.plain (OpenSpec.upto fnExactLinesUpSpec)) fnExactLinesUpUptoCard

/-- THE SECOND FORM's CARD OF 'laws.FnExactSomeOk'. -/
def fnExactSomeOkUptoCard : Claim7 := { stood := { row := fnExactSomeOkUptoRow, standIns := [], harness := (true, "ce463acc5a6f8fd4ed12f8c907611ba6cb600586703102e120498a906cd4dcef"), looks := false }, kinds := [], alts := [], laidByText := true, laidKinds := [.data], laidTests := true, laidLooks := .later }
def FnExactSomeOkUptoCardSaid : Prop := Claim7.holds Tryd.pinned (.plain (OpenSpec.upto fnExactSomeOkSpec)) fnExactSomeOkUptoCard

/-- THE SECOND FORM's CARD OF 'laws.FnExactSomeOf'. -/
def fnExactSomeOfUptoCard : Claim7 := { stood := { row := fnExactSomeOfUptoRow, standIns := [], harness := (true, "ce463acc5a6f8fd4ed12f8c907611ba6cb600586703102e120498a906cd4dcef"), looks := false }, kinds := [], alts := [], laidByText := true, laidKinds := [.data], laidTests := true, laidLooks := .later }
def FnExactSomeOfUptoCardSaid : Prop := Claim7.holds Tryd.pinned (.plain (OpenSpec.upto fnExactSomeOfSpec)) fnExactSomeOfUptoCard

/-- THE SECOND FORM's CARD OF 'laws.FnExactSecretsFrom'. -/
def fnExactSecretsFromUptoCard : Claim7 := { stood := { row := fnExactSecretsFromUptoRow, standIns := [], harness := (true, "ce463acc5a6f8fd4ed12f8c907611ba6cb600586703102e120498a906cd4dcef"), looks := false }, kinds := [], alts := [], laidByText := true, laidKinds := [.data], laidTests := true, laidLooks := .later }
def FnExactSecretsFromUptoCardSaid : Prop := Claim7.holds Tryd.pinned (.plain (OpenSpec.upto fnExactSecretsFromSpec)) fnExactSecretsFromUptoCard

/-- THE SECOND FORM's CARD OF 'laws.FnExactSomeMany'. -/
def fnExactSomeManyUptoCard : Claim7 := { stood := { row := fnExactSomeManyUptoRow, standIns := [], harness := (true, "ce463acc5a6f8fd4ed12f8c907611ba6cb600586703102e120498a906cd4dcef"), looks := false }, kinds := [], alts := [], laidByText := true, laidKinds := [.data], laidTests := true, laidLooks := .later }
def FnExactSomeManyUptoCardSaid : Prop := Claim7.holds Tryd.pinned (.plain (OpenSpec.upto fnExactSomeManySpec)) fnExactSomeManyUptoCard

/-- THE SECOND FORM's CARD OF 'laws.FnExactTalksBy'. -/
def fnExactTalksByUptoCard : Claim7 := { stood := { row := fnExactTalksByUptoRow, standIns := [], harness := (true, "ce463acc5a6f8fd4ed12f8c907611ba6cb600586703102e120498a906cd4dcef"), looks := false }, kinds := [], alts := [], laidByText := true, laidKinds := [.data], laidTests := true, laidLooks := .later }
def FnExactTalksByUptoCardSaid : Prop := Claim7.holds Tryd.pinned (.plain (OpenSpec.upto fnExactTalksBySpec)) fnExactTalksByUptoCard

/-- THE SECOND FORM's CARD OF 'laws.FnExactClaimOk'. -/
def fnExactClaimOkUptoCard : Claim7 := { stood := { row := fnExactClaimOkUptoRow, standIns := [], harness := (true, "ce463acc5a6f8fd4ed12f8c907611ba6cb600586703102e120498a906cd4dcef"), looks := false }, kinds := [], alts := [], laidByText := true, laidKinds := [.data], laidTests := true, laidLooks := .later }
def FnExactClaimOkUptoCardSaid : Prop := Claim7.holds Tryd.pinned (.plain (OpenSpec.upto fnExactClaimOkSpec)) fnExactClaimOkUptoCard
end Rows
end Go.Proofs.YtkcikhjobgackaaDoor
