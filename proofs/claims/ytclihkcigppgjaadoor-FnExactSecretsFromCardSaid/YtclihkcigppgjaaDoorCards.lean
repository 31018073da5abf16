/-
  DERIVED. GIVEN WITH THE SEED: THE CARDS: each row of YtclihkcigppgjaaDoorRows.lean that lists a variable, with what it lists TIED to the program's text (the seventh form; the later family's looks); each row that meets fmt, with fmt's text TOLD by the authors' own Lean function (tested against real Go, not proved from fmt's source: count such statements apart). THE CARD IS WHAT COUNTS. Prove the row's statement (the work); the ties are given (YtclihkcigppgjaaDoorTie.lean); close each card by the builder's one call (the guide's Derived/Test/ToyasCard.lean, 'card_holds'). Laid BY PROGRAM, IN A SANDBOX (cutbox-door.mjs). By AI agents, Wed Nov 11 2026. No macro, syntax, notation, axiom, sorry.
-/
import Derived.Test.YtclihkcigppgjaaDoorRows
import GoSem.ClaimSeven
namespace Go.Proofs.YtclihkcigppgjaaDoor
namespace Rows

/-- THE TIED CARD OF 'laws.FnWordsOk'. -/
def fnWordsOkCard : Claim7 := { stood := { row := fnWordsOkRow, standIns := [], harness := (true, "aeb8ce5ea31065a44239e0f2af2b100f605424fca872576fbdaa489433d852a5"), looks := false }, kinds := [], alts := [], laidByText := true, laidKinds := [.data], laidTests := true, laidLooks := .later }
def FnWordsOkCardSaid : Prop := Claim7.holds Tryd.pinned (.plain (OpenSpec.ofChange fnWordsOkSpec)) fnWordsOkCard

/-- THE TIED CARD OF 'laws.FnExponentsFrom'. -/
def fnExponentsFromCard : Claim7 := { stood := { row := fnExponentsFromRow, standIns := [], harness := (true, "aeb8ce5ea31065a44239e0f2af2b100f605424fca872576fbdaa489433d852a5"), looks := false }, kinds := [], alts := [], laidByText := true, laidKinds := [.data], laidTests := true, laidLooks := .later }
def FnExponentsFromCardSaid : Prop := Claim7.holds Tryd.pinned (.plain (OpenSpec.ofChange fnExponentsFromSpec)) fnExponentsFromCard

/-- THE TIED CARD OF 'laws.FnExactLinesUp'. -/
def fnExactLinesUpCard : Claim7 := { stood := { row := fnExactLinesUpRow, standIns := [], harness := (true, "aeb8ce5ea31065a44239e0f2af2b100f605424fca872576fbdaa489433d852a5"), looks := false }, kinds := [], alts := [], laidByText := true, laidKinds := [.data], laidTests := true, laidLooks := .later }
def FnExactLinesUpCardSaid : Prop := Claim7.holds Tryd.pinned (.plain (OpenSpec.ofChange fnExactLinesUpSpec)) fnExactLinesUpCard

/-- THE TIED CARD OF 'laws.FnExactSomeOk'. -/
def fnExactSomeOkCard : Claim7 := { stood := { row := fnExactSomeOkRow, standIns := [], harness := (true, "aeb8ce5ea31065a44239e0f2af2b100f605424fca872576fbdaa489433d852a5"), looks := false }, kinds := [], alts := [], laidByText := true, laidKinds := [.data], laidTests := true, laidLooks := .later }
def FnExactSomeOkCardSaid : Prop := Claim7.holds Tryd.pinned (.plain (OpenSpec.ofChange fnExactSomeOkSpec)) fnExactSomeOkCard

/-- THE TIED CARD OF 'laws.FnExactSomeOf'. -/
def fnExactSomeOfCard : Claim7 := { stood := { row := fnExactSomeOfRow, standIns := [], harness := (true, "aeb8ce5ea31065a44239e0f2af2b100f605424fca872576fbdaa489433d852a5"), looks := false }, kinds := [], alts := [], laidByText := true, laidKinds := [.data], laidTests := true, laidLooks := .later }
def FnExactSomeOfCardSaid : Prop := Claim7.holds Tryd.pinned (.plain (OpenSpec.ofChange fnExactSomeOfSpec)) fnExactSomeOfCard

/-- THE TIED CARD OF 'laws.FnExactSecretsFrom'. -/
def fnExactSecretsFromCard : Claim7 := { stood := { row := fnExactSecretsFromRow, standIns := [], harness := (true, "aeb8ce5ea31065a44239e0f2af2b100f605424fca872576fbdaa489433d852a5"), looks := false }, kinds := [], alts := [], laidByText := true, laidKinds := [.data], laidTests := true, laidLooks := .later }
def FnExactSecretsFromCardSaid : Prop := Claim7.holds Tryd.pinned (.plain (OpenSpec.ofChange fnExactSecretsFromSpec)) fnExactSecretsFromCard

/-- THE TIED CARD OF 'laws.FnExactTalksBy'. -/
def fnExactTalksByCard : Claim7 := { stood := { row := fnExactTalksByRow, standIns := [], harness := (true, "aeb8ce5ea31065a44239e0f2af2b100f605424fca872576fbdaa489433d852a5"), looks := false }, kinds := [], alts := [], laidByText := true, laidKinds := [.data], laidTests := true, laidLooks := .later }
def FnExactTalksByCardSaid : Prop := Claim7.holds Tryd.pinned (.plain (OpenSpec.ofChange fnExactTalksBySpec)) fnExactTalksByCard

/-- THE SECOND FORM's CARD OF 'laws.FnWordsOk'. -/
def fnWordsOkUptoCard : Claim7 := { stood := { row := fnWordsOkUptoRow, standIns := [], harness := (true, "aeb8ce5ea31065a44239e0f2af2b100f605424fca872576fbdaa489433d852a5"), looks := false }, kinds := [], alts := [], laidByText := true, laidKinds := [.data], laidTests := true, laidLooks := .later }
def FnWordsOkUptoCardSaid : Prop := Claim7.holds Tryd.pinned (.plain (OpenSpec.upto fnWordsOkSpec)) fnWordsOkUptoCard

/-- THE SECOND FORM's CARD OF 'laws.FnExponentsFrom'. -/
def fnExponentsFromUptoCard : Claim7 := { stood := { row := fnExponentsFromUptoRow, standIns := [], harness := (true, "aeb8ce5ea31065a44239e0f2af2b100f605424fca872576fbdaa489433d852a5"), looks := false }, kinds := [], alts := [], laidByText := true, laidKinds := [.data], laidTests := true, laidLooks := .later }
def FnExponentsFromUptoCardSaid : Prop := Claim7.holds Tryd.pinned (.plain (OpenSpec.upto fnExponentsFromSpec)) fnExponentsFromUptoCard

/-- THE SECOND FORM's CARD OF 'laws.FnExactLinesUp'. -/
def fnExactLinesUpUptoCard : Claim7 := { stood := { row := fnExactLinesUpUptoRow, standIns := [], harness := (true, "aeb8ce5ea31065a44239e0f2af2b100f605424fca872576fbdaa489433d852a5"), looks := false }, kinds := [], alts := [], laidByText := true, laidKinds := [.data], laidTests := true, laidLooks := .later }
def FnExactLinesUpUptoCardSaid : Prop := Claim7.holds Tryd.pinned (.plain (OpenSpec.upto fnExactLinesUpSpec)) fnExactLinesUpUptoCard

/-- THE SECOND FORM's CARD OF 'laws.FnExactSomeOk'. -/
def fnExactSomeOkUptoCard : Claim7 := { stood := { row := fnExactSomeOkUptoRow, standIns := [], harness := (true, "aeb8ce5ea31065a44239e0f2af2b100f605424fca872576fbdaa489433d852a5"), looks := false }, kinds := [], alts := [], laidByText := true, laidKinds := [.data], laidTests := true, laidLooks := .later }
def FnExactSomeOkUptoCardSaid : Prop := Claim7.holds Tryd.pinned (.plain (OpenSpec.upto fnExactSomeOkSpec)) fnExactSomeOkUptoCard

/-- THE SECOND FORM's CARD OF 'laws.FnExactSomeOf'. -/
def fnExactSomeOfUptoCard : Claim7 := { stood := { row := fnExactSomeOfUptoRow, standIns := [], harness := (true, "aeb8ce5ea31065a44239e0f2af2b100f605424fca872576fbdaa489433d852a5"), looks := false }, kinds := [], alts := [], laidByText := true, laidKinds := [.data], laidTests := true, laidLooks := .later }
def FnExactSomeOfUptoCardSaid : Prop := Claim7.holds Tryd.pinned (.plain (OpenSpec.upto fnExactSomeOfSpec)) fnExactSomeOfUptoCard

/-- THE SECOND FORM's CARD OF 'laws.FnExactSecretsFrom'. -/
def fnExactSecretsFromUptoCard : Claim7 := { stood := { row := fnExactSecretsFromUptoRow, standIns := [], harness := (true, "aeb8ce5ea31065a44239e0f2af2b100f605424fca872576fbdaa489433d852a5"), looks := false }, kinds := [], alts := [], laidByText := true, laidKinds := [.data], laidTests := true, laidLooks := .later }
def FnExactSecretsFromUptoCardSaid : Prop := Claim7.holds Tryd.pinned (.plain (OpenSpec.upto fnExactSecretsFromSpec)) fnExactSecretsFromUptoCard

/-- THE SECOND FORM's CARD OF 'laws.FnExactTalksBy'. -/
def fnExactTalksByUptoCard : Claim7 := { stood := { row := fnExactTalksByUptoRow, standIns := [], harness := (true, "aeb8ce5ea31065a44239e0f2af2b100f605424fca872576fbdaa489433d852a5"), looks := false }, kinds := [], alts := [], laidByText := true, laidKinds := [.data], laidTests := true, laidLooks := .later }
def FnExactTalksByUptoCardSaid : Prop := Claim7.holds Tryd.pinned (.plain (OpenSpec.upto fnExactTalksBySpec)) fnExactTalksByUptoCard
end Rows
end Go.Proofs.YtclihkcigppgjaaDoor
