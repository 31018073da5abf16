/-
  DERIVED. GIVEN WITH THE SEED: THE CARDS: each row of YtjifldaohdddhabDoorRows.lean that lists a variable, with what it lists TIED to the program's text (the seventh form; the later family's looks); each row that meets fmt, with fmt's text TOLD by the authors' own Lean function (tested against real Go, not proved from fmt's source: count such statements apart). THE CARD IS WHAT COUNTS. Prove the row's statement (the work); the ties are given (YtjifldaohdddhabDoorTie.lean); close each card by the builder's one call (the guide's Derived/Test/ToyasCard.lean, 'card_holds'). Laid BY PROGRAM, IN A SANDBOX (cutbox-door.mjs). By AI agents, Wed Nov 11 2026. No macro, syntax, notation, axiom, sorry.
-/
import Derived.Test.YtjifldaohdddhabDoorRows
import GoSem.ClaimSeven
namespace Go.Proofs.YtjifldaohdddhabDoor
namespace Rows

/-- THE TIED CARD OF 'laws.FnExactGroupPrime'. -/
def fnExactGroupPrimeCard : Claim7 := { stood := { row := fnExactGroupPrimeRow, standIns := [], harness := (true, "454e4d70895f4ad1d7641672f68741973649d27860d1b6cfac05784df6c145e9"), looks := false }, kinds := [], alts := [], laidByText := true, laidKinds := [.data], laidTests := true, laidLooks := .later }
def FnExactGroupPrimeCardSaid : Prop := Claim7.holds Tryd.pinned (.plain (OpenSpec.ofChange fnExactGroupPrimeSpec)) fnExactGroupPrimeCard

/-- THE TIED CARD OF 'laws.FnExactGroupOrder'. -/
def fnExactGroupOrderCard : Claim7 := { stood := { row := fnExactGroupOrderRow, standIns := [], harness := (true, "454e4d70895f4ad1d7641672f68741973649d27860d1b6cfac05784df6c145e9"), looks := false }, kinds := [], alts := [], laidByText := true, laidKinds := [.data], laidTests := true, laidLooks := .later }
def FnExactGroupOrderCardSaid : Prop := Claim7.holds Tryd.pinned (.plain (OpenSpec.ofChange fnExactGroupOrderSpec)) fnExactGroupOrderCard

/-- THE TIED CARD OF 'laws.FnExactGroupBase'. -/
def fnExactGroupBaseCard : Claim7 := { stood := { row := fnExactGroupBaseRow, standIns := [], harness := (true, "454e4d70895f4ad1d7641672f68741973649d27860d1b6cfac05784df6c145e9"), looks := false }, kinds := [], alts := [], laidByText := true, laidKinds := [.data], laidTests := true, laidLooks := .later }
def FnExactGroupBaseCardSaid : Prop := Claim7.holds Tryd.pinned (.plain (OpenSpec.ofChange fnExactGroupBaseSpec)) fnExactGroupBaseCard

/-- THE TIED CARD OF 'laws.FnExactElementOk'. -/
def fnExactElementOkCard : Claim7 := { stood := { row := fnExactElementOkRow, standIns := [], harness := (true, "454e4d70895f4ad1d7641672f68741973649d27860d1b6cfac05784df6c145e9"), looks := false }, kinds := [], alts := [], laidByText := true, laidKinds := [.data], laidTests := true, laidLooks := .later }
def FnExactElementOkCardSaid : Prop := Claim7.holds Tryd.pinned (.plain (OpenSpec.ofChange fnExactElementOkSpec)) fnExactElementOkCard

/-- THE TIED CARD OF 'laws.FnExactExponentOk'. -/
def fnExactExponentOkCard : Claim7 := { stood := { row := fnExactExponentOkRow, standIns := [], harness := (true, "454e4d70895f4ad1d7641672f68741973649d27860d1b6cfac05784df6c145e9"), looks := false }, kinds := [], alts := [], laidByText := true, laidKinds := [.data], laidTests := true, laidLooks := .later }
def FnExactExponentOkCardSaid : Prop := Claim7.holds Tryd.pinned (.plain (OpenSpec.ofChange fnExactExponentOkSpec)) fnExactExponentOkCard

/-- THE TIED CARD OF 'laws.FnExactElementTimes'. -/
def fnExactElementTimesCard : Claim7 := { stood := { row := fnExactElementTimesRow, standIns := [], harness := (true, "454e4d70895f4ad1d7641672f68741973649d27860d1b6cfac05784df6c145e9"), looks := false }, kinds := [], alts := [], laidByText := true, laidKinds := [.data], laidTests := true, laidLooks := .later }
def FnExactElementTimesCardSaid : Prop := Claim7.holds Tryd.pinned (.plain (OpenSpec.ofChange fnExactElementTimesSpec)) fnExactElementTimesCard

/-- THE TIED CARD OF 'laws.FnExactElementPower'. -/
def fnExactElementPowerCard : Claim7 := { stood := { row := fnExactElementPowerRow, standIns := [], harness := (true, "454e4d70895f4ad1d7641672f68741973649d27860d1b6cfac05784df6c145e9"), looks := false }, kinds := [], alts := [], laidByText := true, laidKinds := [.data], laidTests := true, laidLooks := .later }
def FnExactElementPowerCardSaid : Prop := Claim7.holds Tryd.pinned (.plain (OpenSpec.ofChange fnExactElementPowerSpec)) fnExactElementPowerCard

/-- THE TIED CARD OF 'laws.FnExactElementsOf'. -/
def fnExactElementsOfCard : Claim7 := { stood := { row := fnExactElementsOfRow, standIns := [], harness := (true, "454e4d70895f4ad1d7641672f68741973649d27860d1b6cfac05784df6c145e9"), looks := false }, kinds := [], alts := [], laidByText := true, laidKinds := [.data], laidTests := true, laidLooks := .later }
def FnExactElementsOfCardSaid : Prop := Claim7.holds Tryd.pinned (.plain (OpenSpec.ofChange fnExactElementsOfSpec)) fnExactElementsOfCard

/-- THE TIED CARD OF 'laws.FnExactLogOf'. -/
def fnExactLogOfCard : Claim7 := { stood := { row := fnExactLogOfRow, standIns := [], harness := (true, "454e4d70895f4ad1d7641672f68741973649d27860d1b6cfac05784df6c145e9"), looks := false }, kinds := [], alts := [], laidByText := true, laidKinds := [.data], laidTests := true, laidLooks := .later }
def FnExactLogOfCardSaid : Prop := Claim7.holds Tryd.pinned (.plain (OpenSpec.ofChange fnExactLogOfSpec)) fnExactLogOfCard

/-- THE TIED CARD OF 'laws.FnExactExponentBack'. -/
def fnExactExponentBackCard : Claim7 := { stood := { row := fnExactExponentBackRow, standIns := [], harness := (true, "454e4d70895f4ad1d7641672f68741973649d27860d1b6cfac05784df6c145e9"), looks := false }, kinds := [], alts := [], laidByText := true, laidKinds := [.data], laidTests := true, laidLooks := .later }
def FnExactExponentBackCardSaid : Prop := Claim7.holds Tryd.pinned (.plain (OpenSpec.ofChange fnExactExponentBackSpec)) fnExactExponentBackCard

/-- THE SECOND FORM's CARD OF 'laws.FnExactGroupPrime'. -/
def fnExactGroupPrimeUptoCard : Claim7 := { stood := { row := fnExactGroupPrimeUptoRow, standIns := [], harness := (true, "454e4d70895f4ad1d7641672f68741973649d27860d1b6cfac05784df6c145e9"), looks := false }, kinds := [], alts := [], laidByText := true, laidKinds := [.data], laidTests := true, laidLooks := .later }
def FnExactGroupPrimeUptoCardSaid : Prop := Claim7.holds Tryd.pinned (.plain (OpenSpec.upto fnExactGroupPrimeSpec)) fnExactGroupPrimeUptoCard

/-- THE SECOND FORM's CARD OF 'laws.FnExactGroupOrder'. -/
def fnExactGroupOrderUptoCard : Claim7 := { stood := { row := fnExactGroupOrderUptoRow, standIns := [], harness := (true, "454e4d70895f4ad1d7641672f68741973649d27860d1b6cfac05784df6c145e9"), looks := false }, kinds := [], alts := [], laidByText := true, laidKinds := [.data], laidTests := true, laidLooks := .later }
def FnExactGroupOrderUptoCardSaid : Prop := Claim7.holds Tryd.pinned (.plain (OpenSpec.upto fnExactGroupOrderSpec)) fnExactGroupOrderUptoCard

/-- THE SECOND FORM's CARD OF 'laws.FnExactGroupBase'. -/
def fnExactGroupBaseUptoCard : Claim7 := { stood := { row := fnExactGroupBaseUptoRow, standIns := [], harness := (true, "454e4d70895f4ad1d7641672f68741973649d27860d1b6cfac05784df6c145e9"), looks := false }, kinds := [], alts := [], laidByText := true, laidKinds := [.data], laidTests := true, laidLooks := .later }
def FnExactGroupBaseUptoCardSaid : Prop := Claim7.holds Tryd.pinned (.plain (OpenSpec.upto fnExactGroupBaseSpec)) fnExactGroupBaseUptoCard

/-- THE SECOND FORM's CARD OF 'laws.FnExactElementOk'. -/
def fnExactElementOkUptoCard : Claim7 := { stood := { row := fnExactElementOkUptoRow, standIns := [], harness := (true, "454e4d70895f4ad1d7641672f68741973649d27860d1b6cfac05784df6c145e9"), looks := false }, kinds := [], alts := [], laidByText := true, laidKinds := [.data], laidTests := true, laidLooks := .later }
def FnExactElementOkUptoCardSaid : Prop := Claim7.holds Tryd.pinned (.plain (OpenSpec.upto fnExactElementOkSpec)) fnExactElementOkUptoCard

/-- THE SECOND FORM's CARD OF 'laws.FnExactExponentOk'. -/
def fnExactExponentOkUptoCard : Claim7 := { stood := { row := fnExactExponentOkUptoRow, standIns := [], harness := (true, "454e4d70895f4ad1d7641672f68741973649d27860d1b6cfac05784df6c145e9"), looks := false }, kinds := [], alts := [], laidByText := true, laidKinds := [.data], laidTests := true, laidLooks := .later }
def FnExactExponentOkUptoCardSaid : Prop := Claim7.holds Tryd.pinned (.plain (OpenSpec.upto fnExactExponentOkSpec)) fnExactExponentOkUptoCard

/-- THE SECOND FORM's CARD OF 'laws.FnExactElementTimes'. -/
def fnExactElementTimesUptoCard : Claim7 := { stood := { row := fnExactElementTimesUptoRow, standIns := [], harness := (true, "454e4d70895f4ad1d7641672f68741973649d27860d1b6cfac05784df6c145e9"), looks := false }, kinds := [], alts := [], laidByText := true, laidKinds := [.data], laidTests := true, laidLooks := .later }
def FnExactElementTimesUptoCardSaid : Prop := Claim7.holds Tryd.pinned (.plain (OpenSpec.upto fnExactElementTimesSpec)) fnExactElementTimesUptoCard

/-- THE SECOND FORM's CARD OF 'laws.FnExactElementPower'. -/
def fnExactElementPowerUptoCard : Claim7 := { stood := { row := fnExactElementPowerUptoRow, standIns := [], harness := (true, "454e4d70895f4ad1d7641672f68741973649d27860d1b6cfac05784df6c145e9"), looks := false }, kinds := [], alts := [], laidByText := true, laidKinds := [.data], laidTests := true, laidLooks := .later }
def FnExactElementPowerUptoCardSaid : Prop := Claim7.holds Tryd.pinned (.plain (OpenSpec.upto fnExactElementPowerSpec)) fnExactElementPowerUptoCard

/-- THE SECOND FORM's CARD OF 'laws.FnExactElementsOf'. -/
def fnExactElementsOfUptoCard : Claim7 := { stood := { row := fnExactElementsOfUptoRow, standIns := [], harness := (true, "454e4d70895f4ad1d7641672f68741973649d27860d1b6cfac05784df6c145e9"), looks := false }, kinds := [], alts := [], laidByText := true, laidKinds := [.data], laidTests := true, laidLooks := .later }
def FnExactElementsOfUptoCardSaid : Prop := Claim7.holds Tryd.pinned (.plain (OpenSpec.upto fnExactElementsOfSpec)) fnExactElementsOfUptoCard

/-- THE SECOND FORM's CARD OF 'laws.FnExactLogOf'. -/
def fnExactLogOfUptoCard : Claim7 := { stood := { row := fnExactLogOfUptoRow, standIns := [], harness := (true, "454e4d70895f4ad1d7641672f68741973649d27860d1b6cfac05784df6c145e9"), looks := false }, kinds := [], alts := [], laidByText := true, laidKinds := [.data], laidTests := true, laidLooks := .later }
def FnExactLogOfUptoCardSaid : Prop := Claim7.holds Tryd.pinned (.plain (OpenSpec.upto fnExactLogOfSpec)) fnExactLogOfUptoCard

/-- THE SECOND FORM's CARD OF 'laws.FnExactExponentBack'. -/
def fnExactExponentBackUptoCard : Claim7 := { stood := { row := fnExactExponentBackUptoRow, standIns := [], harness := (true, "454e4d70895f4ad1d7641672f68741973649d27860d1b6cfac05784df6c145e9"), looks := false }, kinds := [], alts := [], laidByText := true, laidKinds := [.data], laidTests := true, laidLooks := .later }
def FnExactExponentBackUptoCardSaid : Prop := Claim7.holds Tryd.pinned (.plain (OpenSpec.upto fnExactExponentBackSpec)) fnExactExponentBackUptoCard
end Rows
end Go.Proofs.YtjifldaohdddhabDoor
