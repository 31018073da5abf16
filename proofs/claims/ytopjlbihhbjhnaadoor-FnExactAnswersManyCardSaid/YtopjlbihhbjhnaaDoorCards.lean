/-
  DERIVED. GIVEN WITH THE SEED: THE CARDS: each row of YtopjlbihhbjhnaaDoorRows.lean that lists a variable, with what it lists TIED to the program's text (the seventh form; the later family's looks); each row that meets fmt, with fmt's text TOLD by the authors' own Lean function (tested against real Go, not proved from fmt's source: count such statements apart). THE CARD IS WHAT COUNTS. Prove the row's statement (the work); the ties are given (YtopjlbihhbjhnaaDoorTie.lean); close each card by the builder's one call (the guide's Derived/Test/ToyasCard.lean, 'card_holds'). Laid BY PROGRAM, IN A SANDBOX (cutbox-door.mjs). By AI agents, Wed Nov 11 2026. No macro, syntax, notation, axiom, sorry.
-/
import Derived.Test.YtopjlbihhbjhnaaDoorRows
import GoSem.ClaimSeven
namespace Go.Proofs.YtopjlbihhbjhnaaDoor
namespace Rows

/-- THE TIED CARD OF 'laws.FnExactSecretFrom'. -/
def fnExactSecretFromCard : Claim7 := { stood := { row := fnExactSecretFromRow, standIns := [], harness := (true, "fe259de481a9e4a6c0e4200ba985d41355f2d06903396628c1f1b610dad198ba"), looks := false }, kinds := [], alts := [], laidByText := true, laidKinds := [.data], laidTests := true, laidLooks := .later }
def FnExactSecretFromCardSaid : Prop := Claim7.holds Tryd.pinned (.plain (OpenSpec.ofChange fnExactSecretFromSpec)) fnExactSecretFromCard

/-- THE TIED CARD OF 'laws.FnExactClaimOk'. -/
def fnExactClaimOkCard : Claim7 := { stood := { row := fnExactClaimOkRow, standIns := [], harness := (true, "fe259de481a9e4a6c0e4200ba985d41355f2d06903396628c1f1b610dad198ba"), looks := false }, kinds := [], alts := [], laidByText := true, laidKinds := [.data], laidTests := true, laidLooks := .later }
def FnExactClaimOkCardSaid : Prop := Claim7.holds Tryd.pinned (.plain (OpenSpec.ofChange fnExactClaimOkSpec)) fnExactClaimOkCard

/-- THE TIED CARD OF 'laws.FnExactRowsMake'. -/
def fnExactRowsMakeCard : Claim7 := { stood := { row := fnExactRowsMakeRow, standIns := [], harness := (true, "fe259de481a9e4a6c0e4200ba985d41355f2d06903396628c1f1b610dad198ba"), looks := false }, kinds := [], alts := [], laidByText := true, laidKinds := [.data], laidTests := true, laidLooks := .later }
def FnExactRowsMakeCardSaid : Prop := Claim7.holds Tryd.pinned (.plain (OpenSpec.ofChange fnExactRowsMakeSpec)) fnExactRowsMakeCard

/-- THE TIED CARD OF 'laws.FnExactSolves'. -/
def fnExactSolvesCard : Claim7 := { stood := { row := fnExactSolvesRow, standIns := [], harness := (true, "fe259de481a9e4a6c0e4200ba985d41355f2d06903396628c1f1b610dad198ba"), looks := false }, kinds := [], alts := [], laidByText := true, laidKinds := [.data], laidTests := true, laidLooks := .later }
def FnExactSolvesCardSaid : Prop := Claim7.holds Tryd.pinned (.plain (OpenSpec.ofChange fnExactSolvesSpec)) fnExactSolvesCard

/-- THE TIED CARD OF 'laws.FnExactSolutionsOf'. -/
def fnExactSolutionsOfCard : Claim7 := { stood := { row := fnExactSolutionsOfRow, standIns := [], harness := (true, "fe259de481a9e4a6c0e4200ba985d41355f2d06903396628c1f1b610dad198ba"), looks := false }, kinds := [], alts := [], laidByText := true, laidKinds := [.data], laidTests := true, laidLooks := .later }
def FnExactSolutionsOfCardSaid : Prop := Claim7.holds Tryd.pinned (.plain (OpenSpec.ofChange fnExactSolutionsOfSpec)) fnExactSolutionsOfCard

/-- THE TIED CARD OF 'laws.FnExactWordsOf'. -/
def fnExactWordsOfCard : Claim7 := { stood := { row := fnExactWordsOfRow, standIns := [], harness := (true, "fe259de481a9e4a6c0e4200ba985d41355f2d06903396628c1f1b610dad198ba"), looks := false }, kinds := [], alts := [], laidByText := true, laidKinds := [.data], laidTests := true, laidLooks := .later }
def FnExactWordsOfCardSaid : Prop := Claim7.holds Tryd.pinned (.plain (OpenSpec.ofChange fnExactWordsOfSpec)) fnExactWordsOfCard

/-- THE TIED CARD OF 'laws.FnExactWordsOk'. -/
def fnExactWordsOkCard : Claim7 := { stood := { row := fnExactWordsOkRow, standIns := [], harness := (true, "fe259de481a9e4a6c0e4200ba985d41355f2d06903396628c1f1b610dad198ba"), looks := false }, kinds := [], alts := [], laidByText := true, laidKinds := [.data], laidTests := true, laidLooks := .later }
def FnExactWordsOkCardSaid : Prop := Claim7.holds Tryd.pinned (.plain (OpenSpec.ofChange fnExactWordsOkSpec)) fnExactWordsOkCard

/-- THE TIED CARD OF 'laws.FnExactWordsMade'. -/
def fnExactWordsMadeCard : Claim7 := { stood := { row := fnExactWordsMadeRow, standIns := [], harness := (true, "fe259de481a9e4a6c0e4200ba985d41355f2d06903396628c1f1b610dad198ba"), looks := false }, kinds := [], alts := [], laidByText := true, laidKinds := [.data], laidTests := true, laidLooks := .later }
def FnExactWordsMadeCardSaid : Prop := Claim7.holds Tryd.pinned (.plain (OpenSpec.ofChange fnExactWordsMadeSpec)) fnExactWordsMadeCard

/-- THE TIED CARD OF 'laws.FnExactExponentsFrom'. -/
def fnExactExponentsFromCard : Claim7 := { stood := { row := fnExactExponentsFromRow, standIns := [], harness := (true, "fe259de481a9e4a6c0e4200ba985d41355f2d06903396628c1f1b610dad198ba"), looks := false }, kinds := [], alts := [], laidByText := true, laidKinds := [.data], laidTests := true, laidLooks := .later }
def FnExactExponentsFromCardSaid : Prop := Claim7.holds Tryd.pinned (.plain (OpenSpec.ofChange fnExactExponentsFromSpec)) fnExactExponentsFromCard

/-- THE TIED CARD OF 'laws.FnExactAnswersMany'. -/
def fnExactAnswersManyCard : Claim7 := { stood := { row := fnExactAnswersManyRow, standIns := [], harness := (true, "fe259de481a9e4a6c0e4200ba985d41355f2d06903396628c1f1b610dad198ba"), looks := false }, kinds := [], alts := [], laidByText := true, laidKinds := [.data], laidTests := true, laidLooks := .later }
def FnExactAnswersManyCardSaid : Prop := Claim7.holds Tryd.pinned (.plain (OpenSpec.ofChange fnExactAnswersManySpec)) fnExactAnswersManyCard

/-- THE SECOND FORM's CARD OF 'laws.FnExactSecretFrom'. -/
def fnExactSecretFromUptoCard : Claim7 := { stood := { row := fnExactSecretFromUptoRow, standIns := [], harness := (true, "fe259de481a9e4a6c0e4200ba985d41355f2d06903396628c1f1b610dad198ba"), looks := false }, kinds := [], alts := [], laidByText := true, laidKinds := [.data], laidTests := true, laidLooks := .later }
def FnExactSecretFromUptoCardSaid : Prop := Claim7.holds Tryd.pinned (.plain (OpenSpec.upto fnExactSecretFromSpec)) fnExactSecretFromUptoCard

/-- THE SECOND FORM's CARD OF 'laws.FnExactClaimOk'. -/
def fnExactClaimOkUptoCard : Claim7 := { stood := { row := fnExactClaimOkUptoRow, standIns := [], harness := (true, "fe259de481a9e4a6c0e4200ba985d41355f2d06903396628c1f1b610dad198ba"), looks := false }, kinds := [], alts := [], laidByText := true, laidKinds := [.data], laidTests := true, laidLooks := .later }
def FnExactClaimOkUptoCardSaid : Prop := Claim7.holds Tryd.pinned (.plain (OpenSpec.upto fnExactClaimOkSpec)) fnExactClaimOkUptoCard

/-- THE SECOND FORM's CARD OF 'laws.FnExactRowsMake'. -/
def fnExactRowsMakeUptoCard : Claim7 := { stood := { row := fnExactRowsMakeUptoRow, standIns := [], harness := (true, "fe259de481a9e4a6c0e4200ba985d41355f2d06903396628c1f1b610dad198ba"), looks := false }, kinds := [], alts := [], laidByText := true, laidKinds := [.data], laidTests := true, laidLooks := .later }
def FnExactRowsMakeUptoCardSaid : Prop := Claim7.holds Tryd.pinned (.plain (OpenSpec.upto fnExactRowsMakeSpec)) fnExactRowsMakeUptoCard

/-- THE SECOND FORM's CARD OF 'laws.FnExactSolves'. -/
def fnExactSolvesUptoCard : Claim7 := { stood := { row := fnExactSolvesUptoRow, standIns := [], harness := (true, "fe259de481a9e4a6c0e4200ba985d41355f2d06903396628c1f1b610dad198ba"), looks := false }, kinds := [], alts := [], laidByText := true, laidKinds := [.data], laidTests := true, laidLooks := .later }
def FnExactSolvesUptoCardSaid : Prop := Claim7.holds Tryd.pinned (.plain (OpenSpec.upto fnExactSolvesSpec)) fnExactSolvesUptoCard

/-- THE SECOND FORM's CARD OF 'laws.FnExactSolutionsOf'. -/
def fnExactSolutionsOfUptoCard : Claim7 := { stood := { row := fnExactSolutionsOfUptoRow, standIns := [], harness := (true, "fe259de481a9e4a6c0e4200ba985d41355f2d06903396628c1f1b610dad198ba"), looks := false }, kinds := [], alts := [], laidByText := true, laidKinds := [.data], laidTests := true, laidLooks := .later }
def FnExactSolutionsOfUptoCardSaid : Prop := Claim7.holds Tryd.pinned (.plain (OpenSpec.upto fnExactSolutionsOfSpec)) fnExactSolutionsOfUptoCard

/-- THE SECOND FORM's CARD OF 'laws.FnExactWordsOf'. -/
def fnExactWordsOfUptoCard : Claim7 := { stood := { row := fnExactWordsOfUptoRow, standIns := [], harness := (true, "fe259de481a9e4a6c0e4200ba985d41355f2d06903396628c1f1b610dad198ba"), looks := false }, kinds := [], alts := [], laidByText := true, laidKinds := [.data], laidTests := true, laidLooks := .later }
def FnExactWordsOfUptoCardSaid : Prop := Claim7.holds Tryd.pinned (.plain (OpenSpec.upto fnExactWordsOfSpec)) fnExactWordsOfUptoCard

/-- THE SECOND FORM's CARD OF 'laws.FnExactWordsOk'. -/
def fnExactWordsOkUptoCard : Claim7 := { stood := { row := fnExactWordsOkUptoRow, standIns := [], harness := (true, "fe259de481a9e4a6c0e4200ba985d41355f2d06903396628c1f1b610dad198ba"), looks := false }, kinds := [], alts := [], laidByText := true, laidKinds := [.data], laidTests := true, laidLooks := .later }
def FnExactWordsOkUptoCardSaid : Prop := Claim7.holds Tryd.pinned (.plain (OpenSpec.upto fnExactWordsOkSpec)) fnExactWordsOkUptoCard

/-- THE SECOND FORM's CARD OF 'laws.FnExactWordsMade'. -/
def fnExactWordsMadeUptoCard : Claim7 := { stood := { row := fnExactWordsMadeUptoRow, standIns := [], harness := (true, "fe259de481a9e4a6c0e4200ba985d41355f2d06903396628c1f1b610dad198ba"), looks := false }, kinds := [], alts := [], laidByText := true, laidKinds := [.data], laidTests := true, laidLooks := .later }
def FnExactWordsMadeUptoCardSaid : Prop := Claim7.holds Tryd.pinned (.plain (OpenSpec.upto fnExactWordsMadeSpec)) fnExactWordsMadeUptoCard

/-- THE SECOND FORM's CARD OF 'laws.FnExactExponentsFrom'. -/
def fnExactExponentsFromUptoCard : Claim7 := { stood := { row := fnExactExponentsFromUptoRow, standIns := [], harness := (true, "fe259de481a9e4a6c0e4200ba985d41355f2d06903396628c1f1b610dad198ba"), looks := false }, kinds := [], alts := [], laidByText := true, laidKinds := [.data], laidTests := true, laidLooks := .later }
def FnExactExponentsFromUptoCardSaid : Prop := Claim7.holds Tryd.pinned (.plain (OpenSpec.upto fnExactExponentsFromSpec)) fnExactExponentsFromUptoCard

/-- THE SECOND FORM's CARD OF 'laws.FnExactAnswersMany'. -/
def fnExactAnswersManyUptoCard : Claim7 := { stood := { row := fnExactAnswersManyUptoRow, standIns := [], harness := (true, "fe259de481a9e4a6c0e4200ba985d41355f2d06903396628c1f1b610dad198ba"), looks := false }, kinds := [], alts := [], laidByText := true, laidKinds := [.data], laidTests := true, laidLooks := .later }
def FnExactAnswersManyUptoCardSaid : Prop := Claim7.holds Tryd.pinned (.plain (OpenSpec.upto fnExactAnswersManySpec)) fnExactAnswersManyUptoCard
end Rows
end Go.Proofs.YtopjlbihhbjhnaaDoor
