/-
  DERIVED. GIVEN WITH THE SEED: THE CARDS: each row of YtjifldaohdddhaaDoorRows.lean that lists a variable, with what it lists TIED to the program's text (the seventh form; the later family's looks); each row that meets fmt, with fmt's text TOLD by the authors' own Lean function (tested against real Go, not proved from fmt's source: count such statements apart). THE CARD IS WHAT COUNTS. Prove the row's statement (the work); the ties are given (YtjifldaohdddhaaDoorTie.lean); close each card by the builder's one call (the guide's Derived/Test/ToyasCard.lean, 'card_holds'). Laid BY PROGRAM, IN A SANDBOX (cutbox-door.mjs). By AI agents, Wed Nov 11 2026. No macro, syntax, notation, axiom, sorry.
-/
import Derived.Test.YtjifldaohdddhaaDoorRows
import GoSem.ClaimSeven
namespace Go.Proofs.YtjifldaohdddhaaDoor
namespace Rows

/-- THE TIED CARD OF 'laws.FnGroupPrime'. -/
def fnGroupPrimeCard : Claim7 := { stood := { row := fnGroupPrimeRow, standIns := [], harness := (true, "5ba526f99f6f91edc96ab9682228c9b8a89c4e351eabcdea4e342baa5763df5e"), looks := false }, kinds := [], alts := [], laidByText := true, laidKinds := [.data], laidTests := true, laidLooks := .later }
def FnGroupPrimeCardSaid : Prop := Claim7.holds Tryd.pinned (.plain (OpenSpec.ofChange fnGroupPrimeSpec)) fnGroupPrimeCard

/-- THE TIED CARD OF 'laws.FnGroupOrder'. -/
def fnGroupOrderCard : Claim7 := { stood := { row := fnGroupOrderRow, standIns := [], harness := (true, "5ba526f99f6f91edc96ab9682228c9b8a89c4e351eabcdea4e342baa5763df5e"), looks := false }, kinds := [], alts := [], laidByText := true, laidKinds := [.data], laidTests := true, laidLooks := .later }
def FnGroupOrderCardSaid : Prop := Claim7.holds Tryd.pinned (.plain (OpenSpec.ofChange fnGroupOrderSpec)) fnGroupOrderCard

/-- THE TIED CARD OF 'laws.FnGroupBase'. -/
def fnGroupBaseCard : Claim7 := { stood := { row := fnGroupBaseRow, standIns := [], harness := (true, "5ba526f99f6f91edc96ab9682228c9b8a89c4e351eabcdea4e342baa5763df5e"), looks := false }, kinds := [], alts := [], laidByText := true, laidKinds := [.data], laidTests := true, laidLooks := .later }
def FnGroupBaseCardSaid : Prop := Claim7.holds Tryd.pinned (.plain (OpenSpec.ofChange fnGroupBaseSpec)) fnGroupBaseCard

/-- THE TIED CARD OF 'laws.FnElementOk'. -/
def fnElementOkCard : Claim7 := { stood := { row := fnElementOkRow, standIns := [], harness := (true, "5ba526f99f6f91edc96ab9682228c9b8a89c4e351eabcdea4e342baa5763df5e"), looks := false }, kinds := [], alts := [], laidByText := true, laidKinds := [.data], laidTests := true, laidLooks := .later }
def FnElementOkCardSaid : Prop := Claim7.holds Tryd.pinned (.plain (OpenSpec.ofChange fnElementOkSpec)) fnElementOkCard

/-- THE TIED CARD OF 'laws.FnExponentOk'. -/
def fnExponentOkCard : Claim7 := { stood := { row := fnExponentOkRow, standIns := [], harness := (true, "5ba526f99f6f91edc96ab9682228c9b8a89c4e351eabcdea4e342baa5763df5e"), looks := false }, kinds := [], alts := [], laidByText := true, laidKinds := [.data], laidTests := true, laidLooks := .later }
def FnExponentOkCardSaid : Prop := Claim7.holds Tryd.pinned (.plain (OpenSpec.ofChange fnExponentOkSpec)) fnExponentOkCard

/-- THE TIED CARD OF 'laws.FnElementTimes'. -/
def fnElementTimesCard : Claim7 := { stood := { row := fnElementTimesRow, standIns := [], harness := (true, "5ba526f99f6f91edc96ab9682228c9b8a89c4e351eabcdea4e342baa5763df5e"), looks := false }, kinds := [], alts := [], laidByText := true, laidKinds := [.data], laidTests := true, laidLooks := .later }
def FnElementTimesCardSaid : Prop := Claim7.holds Tryd.pinned (.plain (OpenSpec.ofChange fnElementTimesSpec)) fnElementTimesCard

/-- THE TIED CARD OF 'laws.FnElementPower'. -/
def fnElementPowerCard : Claim7 := { stood := { row := fnElementPowerRow, standIns := [], harness := (true, "5ba526f99f6f91edc96ab9682228c9b8a89c4e351eabcdea4e342baa5763df5e"), looks := false }, kinds := [], alts := [], laidByText := true, laidKinds := [.data], laidTests := true, laidLooks := .later }
def FnElementPowerCardSaid : Prop := Claim7.holds Tryd.pinned (.plain (OpenSpec.ofChange fnElementPowerSpec)) fnElementPowerCard

/-- THE TIED CARD OF 'laws.FnElementsOf'. -/
def fnElementsOfCard : Claim7 := { stood := { row := fnElementsOfRow, standIns := [], harness := (true, "5ba526f99f6f91edc96ab9682228c9b8a89c4e351eabcdea4e342baa5763df5e"), looks := false }, kinds := [], alts := [], laidByText := true, laidKinds := [.data], laidTests := true, laidLooks := .later }
def FnElementsOfCardSaid : Prop := Claim7.holds Tryd.pinned (.plain (OpenSpec.ofChange fnElementsOfSpec)) fnElementsOfCard

/-- THE TIED CARD OF 'laws.FnLogOf'. -/
def fnLogOfCard : Claim7 := { stood := { row := fnLogOfRow, standIns := [], harness := (true, "5ba526f99f6f91edc96ab9682228c9b8a89c4e351eabcdea4e342baa5763df5e"), looks := false }, kinds := [], alts := [], laidByText := true, laidKinds := [.data], laidTests := true, laidLooks := .later }
def FnLogOfCardSaid : Prop := Claim7.holds Tryd.pinned (.plain (OpenSpec.ofChange fnLogOfSpec)) fnLogOfCard

/-- THE TIED CARD OF 'laws.FnExponentBack'. -/
def fnExponentBackCard : Claim7 := { stood := { row := fnExponentBackRow, standIns := [], harness := (true, "5ba526f99f6f91edc96ab9682228c9b8a89c4e351eabcdea4e342baa5763df5e"), looks := false }, kinds := [], alts := [], laidByText := true, laidKinds := [.data], laidTests := true, laidLooks := .later }
def FnExponentBackCardSaid : Prop := Claim7.holds Tryd.pinned (.plain (OpenSpec.ofChange fnExponentBackSpec)) fnExponentBackCard

/-- THE SECOND FORM's CARD OF 'laws.FnGroupPrime'. -/
def fnGroupPrimeUptoCard : Claim7 := { stood := { row := fnGroupPrimeUptoRow, standIns := [], harness := (true, "5ba526f99f6f91edc96ab9682228c9b8a89c4e351eabcdea4e342baa5763df5e"), looks := false }, kinds := [], alts := [], laidByText := true, laidKinds := [.data], laidTests := true, laidLooks := .later }
def FnGroupPrimeUptoCardSaid : Prop := Claim7.holds Tryd.pinned (.plain (OpenSpec.upto fnGroupPrimeSpec)) fnGroupPrimeUptoCard

/-- THE SECOND FORM's CARD OF 'laws.FnGroupOrder'. -/
def fnGroupOrderUptoCard : Claim7 := { stood := { row := fnGroupOrderUptoRow, standIns := [], harness := (true, "5ba526f99f6f91edc96ab9682228c9b8a89c4e351eabcdea4e342baa5763df5e"), looks := false }, kinds := [], alts := [], laidByText := true, laidKinds := [.data], laidTests := true, laidLooks := .later }
def FnGroupOrderUptoCardSaid : Prop := Claim7.holds Tryd.pinned (.plain (OpenSpec.upto fnGroupOrderSpec)) fnGroupOrderUptoCard

/-- THE SECOND FORM's CARD OF 'laws.FnGroupBase'. -/
def fnGroupBaseUptoCard : Claim7 := { stood := { row := fnGroupBaseUptoRow, standIns := [], harness := (true, "5ba526f99f6f91edc96ab9682228c9b8a89c4e351eabcdea4e342baa5763df5e"), looks := false }, kinds := [], alts := [], laidByText := true, laidKinds := [.data], laidTests := true, laidLooks := .later }
def FnGroupBaseUptoCardSaid : Prop := Claim7.holds Tryd.pinned (.plain (OpenSpec.upto fnGroupBaseSpec)) fnGroupBaseUptoCard

/-- THE SECOND FORM's CARD OF 'laws.FnElementOk'. -/
def fnElementOkUptoCard : Claim7 := { stood := { row := fnElementOkUptoRow, standIns := [], harness := (true, "5ba526f99f6f91edc96ab9682228c9b8a89c4e351eabcdea4e342baa5763df5e"), looks := false }, kinds := [], alts := [], laidByText := true, laidKinds := [.data], laidTests := true, laidLooks := .later }
def FnElementOkUptoCardSaid : Prop := Claim7.holds Tryd.pinned (.plain (OpenSpec.upto fnElementOkSpec)) fnElementOkUptoCard

/-- THE SECOND FORM's CARD OF 'laws.FnExponentOk'. -/
def fnExponentOkUptoCard : Claim7 := { stood := { row := fnExponentOkUptoRow, standIns := [], harness := (true, "5ba526f99f6f91edc96ab9682228c9b8a89c4e351eabcdea4e342baa5763df5e"), looks := false }, kinds := [], alts := [], laidByText := true, laidKinds := [.data], laidTests := true, laidLooks := .later }
def FnExponentOkUptoCardSaid : Prop := Claim7.holds Tryd.pinned (.plain (OpenSpec.upto fnExponentOkSpec)) fnExponentOkUptoCard

/-- THE SECOND FORM's CARD OF 'laws.FnElementTimes'. -/
def fnElementTimesUptoCard : Claim7 := { stood := { row := fnElementTimesUptoRow, standIns := [], harness := (true, "5ba526f99f6f91edc96ab9682228c9b8a89c4e351eabcdea4e342baa5763df5e"), looks := false }, kinds := [], alts := [], laidByText := true, laidKinds := [.data], laidTests := true, laidLooks := .later }
def FnElementTimesUptoCardSaid : Prop := Claim7.holds Tryd.pinned (.plain (OpenSpec.upto fnElementTimesSpec)) fnElementTimesUptoCard

/-- THE SECOND FORM's CARD OF 'laws.FnElementPower'. -/
def fnElementPowerUptoCard : Claim7 := { stood := { row := fnElementPowerUptoRow, standIns := [], harness := (true, "5ba526f99f6f91edc96ab9682228c9b8a89c4e351eabcdea4e342baa5763df5e"), looks := false }, kinds := [], alts := [], laidByText := true, laidKinds := [.data], laidTests := true, laidLooks := .later }
def FnElementPowerUptoCardSaid : Prop := Claim7.holds Tryd.pinned (.plain (OpenSpec.upto fnElementPowerSpec)) fnElementPowerUptoCard

/-- THE SECOND FORM's CARD OF 'laws.FnElementsOf'. -/
def fnElementsOfUptoCard : Claim7 := { stood := { row := fnElementsOfUptoRow, standIns := [], harness := (true, "5ba526f99f6f91edc96ab9682228c9b8a89c4e351eabcdea4e342baa5763df5e"), looks := false }, kinds := [], alts := [], laidByText := true, laidKinds := [.data], laidTests := true, laidLooks := .later }
def FnElementsOfUptoCardSaid : Prop := Claim7.holds Tryd.pinned (.plain (OpenSpec.upto fnElementsOfSpec)) fnElementsOfUptoCard

/-- THE SECOND FORM's CARD OF 'laws.FnLogOf'. -/
def fnLogOfUptoCard : Claim7 := { stood := { row := fnLogOfUptoRow, standIns := [], harness := (true, "5ba526f99f6f91edc96ab9682228c9b8a89c4e351eabcdea4e342baa5763df5e"), looks := false }, kinds := [], alts := [], laidByText := true, laidKinds := [.data], laidTests := true, laidLooks := .later }
def FnLogOfUptoCardSaid : Prop := Claim7.holds Tryd.pinned (.plain (OpenSpec.upto fnLogOfSpec)) fnLogOfUptoCard

/-- THE SECOND FORM's CARD OF 'laws.FnExponentBack'. -/
def fnExponentBackUptoCard : Claim7 := { stood := { row := fnExponentBackUptoRow, standIns := [], harness := (true, "5ba526f99f6f91edc96ab9682228c9b8a89c4e351eabcdea4e342baa5763df5e"), looks := false }, kinds := [], alts := [], laidByText := true, laidKinds := [.data], laidTests := true, laidLooks := .later }
def FnExponentBackUptoCardSaid : Prop := Claim7.holds Tryd.pinned (.plain (OpenSpec.upto fnExponentBackSpec)) fnExponentBackUptoCard
end Rows
end Go.Proofs.YtjifldaohdddhaaDoor
