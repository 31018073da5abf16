/-
  DERIVED. GIVEN WITH THE SEED: THE CARDS: each row of YtkcikhjobgackabDoorRows.lean that lists a variable, with what it lists TIED to the program's text (the seventh form; the later family's looks); each row that meets fmt, with fmt's text TOLD by the authors' own Lean function (tested against real Go, not proved from fmt's source: count such statements apart). THE CARD IS WHAT COUNTS. Prove the row's statement (the work); the ties are given (YtkcikhjobgackabDoorTie.lean); close each card by the builder's one call (the guide's Derived/Test/ToyasCard.lean, 'card_holds'). Laid BY PROGRAM, IN A SANDBOX (cutbox-door.mjs). By AI agents, Wed Nov 11 2026. No macro, syntax, notation, axiom, sorry.
-/
import Derived.Test.YtkcikhjobgackabDoorRows
import GoSem.ClaimSeven
namespace Go.Proofs.YtkcikhjobgackabDoor
namespace Rows

/-- THE TIED CARD OF 'laws.FnClaimOk'. -/
def fnClaimOkCard : Claim7 := { stood := { row := fnClaimOkRow, standIns := [], harness := (true, "3acc689b93b9285802e58218a0c639c254cade3dfd058c91f261bcde56b9b3bf"), looks := false }, kinds := [], alts := [], laidByText := true, laidKinds := [.data], laidTests := true, laidLooks := .later }
def FnClaimOkCardSaid : Prop := Claim7.holds Tryd.pinned (.plain (OpenSpec.ofChange fnClaimOkSpec)) fnClaimOkCard

/-- THE TIED CARD OF 'laws.FnRowsMake'. -/
def fnRowsMakeCard : Claim7 := { stood := { row := fnRowsMakeRow, standIns := [], harness := (true, "3acc689b93b9285802e58218a0c639c254cade3dfd058c91f261bcde56b9b3bf"), looks := false }, kinds := [], alts := [], laidByText := true, laidKinds := [.data], laidTests := true, laidLooks := .later }
def FnRowsMakeCardSaid : Prop := Claim7.holds Tryd.pinned (.plain (OpenSpec.ofChange fnRowsMakeSpec)) fnRowsMakeCard

/-- THE TIED CARD OF 'laws.FnSolves'. -/
def fnSolvesCard : Claim7 := { stood := { row := fnSolvesRow, standIns := [], harness := (true, "3acc689b93b9285802e58218a0c639c254cade3dfd058c91f261bcde56b9b3bf"), looks := false }, kinds := [], alts := [], laidByText := true, laidKinds := [.data], laidTests := true, laidLooks := .later }
def FnSolvesCardSaid : Prop := Claim7.holds Tryd.pinned (.plain (OpenSpec.ofChange fnSolvesSpec)) fnSolvesCard

/-- THE TIED CARD OF 'laws.FnSolutionsOf'. -/
def fnSolutionsOfCard : Claim7 := { stood := { row := fnSolutionsOfRow, standIns := [], harness := (true, "3acc689b93b9285802e58218a0c639c254cade3dfd058c91f261bcde56b9b3bf"), looks := false }, kinds := [], alts := [], laidByText := true, laidKinds := [.data], laidTests := true, laidLooks := .later }
def FnSolutionsOfCardSaid : Prop := Claim7.holds Tryd.pinned (.plain (OpenSpec.ofChange fnSolutionsOfSpec)) fnSolutionsOfCard

/-- THE TIED CARD OF 'laws.FnWordsOf'. -/
def fnWordsOfCard : Claim7 := { stood := { row := fnWordsOfRow, standIns := [], harness := (true, "3acc689b93b9285802e58218a0c639c254cade3dfd058c91f261bcde56b9b3bf"), looks := false }, kinds := [], alts := [], laidByText := true, laidKinds := [.data], laidTests := true, laidLooks := .later }
def FnWordsOfCardSaid : Prop := Claim7.holds Tryd.pinned (.plain (OpenSpec.ofChange fnWordsOfSpec)) fnWordsOfCard

/-- THE TIED CARD OF 'laws.FnWordsOk'. -/
def fnWordsOkCard : Claim7 := { stood := { row := fnWordsOkRow, standIns := [], harness := (true, "3acc689b93b9285802e58218a0c639c254cade3dfd058c91f261bcde56b9b3bf"), looks := false }, kinds := [], alts := [], laidByText := true, laidKinds := [.data], laidTests := true, laidLooks := .later }
def FnWordsOkCardSaid : Prop := Claim7.holds Tryd.pinned (.plain (OpenSpec.ofChange fnWordsOkSpec)) fnWordsOkCard

/-- THE TIED CARD OF 'laws.FnWordsMade'. -/
def fnWordsMadeCard : Claim7 := { stood := { row := fnWordsMadeRow, standIns := [], harness := (true, "3acc689b93b9285802e58218a0c639c254cade3dfd058c91f261bcde56b9b3bf"), looks := false }, kinds := [], alts := [], laidByText := true, laidKinds := [.data], laidTests := true, laidLooks := .later }
def FnWordsMadeCardSaid : Prop := Claim7.holds Tryd.pinned (.plain (OpenSpec.ofChange fnWordsMadeSpec)) fnWordsMadeCard

/-- THE TIED CARD OF 'laws.FnExponentsFrom'. -/
def fnExponentsFromCard : Claim7 := { stood := { row := fnExponentsFromRow, standIns := [], harness := (true, "3acc689b93b9285802e58218a0c639c254cade3dfd058c91f261bcde56b9b3bf"), looks := false }, kinds := [], alts := [], laidByText := true, laidKinds := [.data], laidTests := true, laidLooks := .later }
def FnExponentsFromCardSaid : Prop := Claim7.holds Tryd.pinned (.plain (OpenSpec.ofChange fnExponentsFromSpec)) fnExponentsFromCard

/-- THE SECOND FORM's CARD OF 'laws.FnClaimOk'. -/
def fnClaimOkUptoCard : Claim7 := { stood := { row := fnClaimOkUptoRow, standIns := [], harness := (true, "3acc689b93b9285802e58218a0c639c254cade3dfd058c91f261bcde56b9b3bf"), looks := false }, kinds := [], alts := [], laidByText := true, laidKinds := [.data], laidTests := true, laidLooks := .later }
def FnClaimOkUptoCardSaid : Prop := Claim7.holds Tryd.pinned (.plain (OpenSpec.upto fnClaimOkSpec)) fnClaimOkUptoCard

/-- THE SECOND FORM's CARD OF 'laws.FnRowsMake'. -/
def fnRowsMakeUptoCard : Claim7 := { stood := { row := fnRowsMakeUptoRow, standIns := [], harness := (true, "3acc689b93b9285802e58218a0c639c254cade3dfd058c91f261bcde56b9b3bf"), looks := false }, kinds := [], alts := [], laidByText := true, laidKinds := [.data], laidTests := true, laidLooks := .later }
def FnRowsMakeUptoCardSaid : Prop := Claim7.holds Tryd.pinned (.plain (OpenSpec.upto fnRowsMakeSpec)) fnRowsMakeUptoCard

/-- THE SECOND FORM's CARD OF 'laws.FnSolves'. -/
def fnSolvesUptoCard : Claim7 := { stood := { row := fnSolvesUptoRow, standIns := [], harness := (true, "3acc689b93b9285802e58218a0c639c254cade3dfd058c91f261bcde56b9b3bf"), looks := false }, kinds := [], alts := [], laidByText := true, laidKinds := [.data], laidTests := true, laidLooks := .later }
def FnSolvesUptoCardSaid : Prop := Claim7.holds Tryd.pinned (.plain (OpenSpec.upto fnSolvesSpec)) fnSolvesUptoCard

/-- THE SECOND FORM's CARD OF 'laws.FnSolutionsOf'. -/
def fnSolutionsOfUptoCard : Claim7 := { stood := { row := fnSolutionsOfUptoRow, standIns := [], harness := (true, "3acc689b93b9285802e58218a0c639c254cade3dfd058c91f261bcde56b9b3bf"), looks := false }, kinds := [], alts := [], laidByText := true, laidKinds := [.data], laidTests := true, laidLooks := .later }
def FnSolutionsOfUptoCardSaid : Prop := Claim7.holds Tryd.pinned (.plain (OpenSpec.upto fnSolutionsOfSpec)) fnSolutionsOfUptoCard

/-- THE SECOND FORM's CARD OF 'laws.FnWordsOf'. -/
def fnWordsOfUptoCard : Claim7 := { stood := { row := fnWordsOfUptoRow, standIns := [], harness := (true, "3acc689b93b9285802e58218a0c639c254cade3dfd058c91f261bcde56b9b3bf"), looks := false }, kinds := [], alts := [], laidByText := true, laidKinds := [.data], laidTests := true, laidLooks := .later }
def FnWordsOfUptoCardSaid : Prop := Claim7.holds Tryd.pinned (.plain (OpenSpec.upto fnWordsOfSpec)) fnWordsOfUptoCard

/-- THE SECOND FORM's CARD OF 'laws.FnWordsOk'. -/
def fnWordsOkUptoCard : Claim7 := { stood := { row := fnWordsOkUptoRow, standIns := [], harness := (true, "3acc689b93b9285802e58218a0c639c254cade3dfd058c91f261bcde56b9b3bf"), looks := false }, kinds := [], alts := [], laidByText := true, laidKinds := [.data], laidTests := true, laidLooks := .later }
def FnWordsOkUptoCardSaid : Prop := Claim7.holds Tryd.pinned (.plain (OpenSpec.upto fnWordsOkSpec)) fnWordsOkUptoCard

/-- THE SECOND FORM's CARD OF 'laws.FnWordsMade'. -/
def fnWordsMadeUptoCard : Claim7 := { stood := { row := fnWordsMadeUptoRow, standIns := [], harness := (true, "3acc689b93b9285802e58218a0c639c254cade3dfd058c91f261bcde56b9b3bf"), looks := false }, kinds := [], alts := [], laidByText := true, laidKinds := [.data], laidTests := true, laidLooks := .later }
def FnWordsMadeUptoCardSaid : Prop := Claim7.holds Tryd.pinned (.plain (OpenSpec.upto fnWordsMadeSpec)) fnWordsMadeUptoCard

/-- THE SECOND FORM's CARD OF 'laws.FnExponentsFrom'. -/
def fnExponentsFromUptoCard : Claim7 := { stood := { row := fnExponentsFromUptoRow, standIns := [], harness := (true, "3acc689b93b9285802e58218a0c639c254cade3dfd058c91f261bcde56b9b3bf"), looks := false }, kinds := [], alts := [], laidByText := true, laidKinds := [.data], laidTests := true, laidLooks := .later }
def FnExponentsFromUptoCardSaid : Prop := Claim7.holds Tryd.pinned (.plain (OpenSpec.upto fnExponentsFromSpec)) fnExponentsFromUptoCard
end Rows
end Go.Proofs.YtkcikhjobgackabDoor
