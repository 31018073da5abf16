/-
  DERIVED. GIVEN WITH THE SEED: THE CARDS: each row of YtljekapbcphdaaaDoorRows.lean that lists a variable, with what it lists TIED to the program's text (the seventh form; the later family's looks); each row that meets fmt, with fmt's text TOLD by the authors' own Lean function (tested against real Go, not proved from fmt's source: count such statements apart). THE CARD IS WHAT COUNTS. Prove the row's statement (the work); the ties are given (YtljekapbcphdaaaDoorTie.lean); close each card by the builder's one call (the guide's Derived/Test/ToyasCard.lean, 'card_holds'). Laid BY PROGRAM, IN A SANDBOX (cutbox-door.mjs). By AI agents, Wed Nov 11 2026. No macro, syntax, notation, axiom, sorry.
-/
import Derived.Test.YtljekapbcphdaaaDoorRows
import GoSem.ClaimSeven
namespace Go.Proofs.YtljekapbcphdaaaDoor
namespace Rows

/-- THE TIED CARD OF 'laws.FnExactSecondOk'. -/
def fnExactSecondOkCard : Claim7 := { stood := { row := fnExactSecondOkRow, standIns := [], harness := (true, "105d637b77532c92cd1121b0aa8bc14c9d1d0234d37314f268337a8e9d112f9c"), looks := false }, kinds := [], alts := [], laidByText := true, laidKinds := [.data], laidTests := true, laidLooks := .later }
def FnExactSecondOkCardSaid : Prop := Claim7.holds Tryd.pinned (.plain (OpenSpec.ofChange fnExactSecondOkSpec)) fnExactSecondOkCard

/-- THE TIED CARD OF 'laws.FnExactEnvelopeOf'. -/
def fnExactEnvelopeOfCard : Claim7 := { stood := { row := fnExactEnvelopeOfRow, standIns := [], harness := (true, "105d637b77532c92cd1121b0aa8bc14c9d1d0234d37314f268337a8e9d112f9c"), looks := false }, kinds := [], alts := [], laidByText := true, laidKinds := [.data], laidTests := true, laidLooks := .later }
def FnExactEnvelopeOfCardSaid : Prop := Claim7.holds Tryd.pinned (.plain (OpenSpec.ofChange fnExactEnvelopeOfSpec)) fnExactEnvelopeOfCard

/-- THE TIED CARD OF 'laws.FnExactEnvelopeSum'. -/
def fnExactEnvelopeSumCard : Claim7 := { stood := { row := fnExactEnvelopeSumRow, standIns := [], harness := (true, "105d637b77532c92cd1121b0aa8bc14c9d1d0234d37314f268337a8e9d112f9c"), looks := false }, kinds := [], alts := [], laidByText := true, laidKinds := [.data], laidTests := true, laidLooks := .later }
def FnExactEnvelopeSumCardSaid : Prop := Claim7.holds Tryd.pinned (.plain (OpenSpec.ofChange fnExactEnvelopeSumSpec)) fnExactEnvelopeSumCard

/-- THE TIED CARD OF 'laws.FnExactBaseFrom'. -/
def fnExactBaseFromCard : Claim7 := { stood := { row := fnExactBaseFromRow, standIns := [], harness := (true, "105d637b77532c92cd1121b0aa8bc14c9d1d0234d37314f268337a8e9d112f9c"), looks := false }, kinds := [], alts := [], laidByText := true, laidKinds := [.data], laidTests := true, laidLooks := .later }
def FnExactBaseFromCardSaid : Prop := Claim7.holds Tryd.pinned (.plain (OpenSpec.ofChange fnExactBaseFromSpec)) fnExactBaseFromCard

/-- THE TIED CARD OF 'laws.FnExactWaysOf'. -/
def fnExactWaysOfCard : Claim7 := { stood := { row := fnExactWaysOfRow, standIns := [], harness := (true, "105d637b77532c92cd1121b0aa8bc14c9d1d0234d37314f268337a8e9d112f9c"), looks := false }, kinds := [], alts := [], laidByText := true, laidKinds := [.data], laidTests := true, laidLooks := .later }
def FnExactWaysOfCardSaid : Prop := Claim7.holds Tryd.pinned (.plain (OpenSpec.ofChange fnExactWaysOfSpec)) fnExactWaysOfCard

/-- THE TIED CARD OF 'laws.FnSecondOk'. -/
def fnSecondOkCard : Claim7 := { stood := { row := fnSecondOkRow, standIns := [], harness := (true, "105d637b77532c92cd1121b0aa8bc14c9d1d0234d37314f268337a8e9d112f9c"), looks := false }, kinds := [], alts := [], laidByText := true, laidKinds := [.data], laidTests := true, laidLooks := .later }
def FnSecondOkCardSaid : Prop := Claim7.holds Tryd.pinned (.plain (OpenSpec.ofChange fnSecondOkSpec)) fnSecondOkCard

/-- THE TIED CARD OF 'laws.FnEnvelopeOf'. -/
def fnEnvelopeOfCard : Claim7 := { stood := { row := fnEnvelopeOfRow, standIns := [], harness := (true, "105d637b77532c92cd1121b0aa8bc14c9d1d0234d37314f268337a8e9d112f9c"), looks := false }, kinds := [], alts := [], laidByText := true, laidKinds := [.data], laidTests := true, laidLooks := .later }
def FnEnvelopeOfCardSaid : Prop := Claim7.holds Tryd.pinned (.plain (OpenSpec.ofChange fnEnvelopeOfSpec)) fnEnvelopeOfCard

/-- THE TIED CARD OF 'laws.FnEnvelopeSum'. -/
def fnEnvelopeSumCard : Claim7 := { stood := { row := fnEnvelopeSumRow, standIns := [], harness := (true, "105d637b77532c92cd1121b0aa8bc14c9d1d0234d37314f268337a8e9d112f9c"), looks := false }, kinds := [], alts := [], laidByText := true, laidKinds := [.data], laidTests := true, laidLooks := .later }
def FnEnvelopeSumCardSaid : Prop := Claim7.holds Tryd.pinned (.plain (OpenSpec.ofChange fnEnvelopeSumSpec)) fnEnvelopeSumCard

/-- THE TIED CARD OF 'laws.FnBaseFrom'. -/
def fnBaseFromCard : Claim7 := { stood := { row := fnBaseFromRow, standIns := [], harness := (true, "105d637b77532c92cd1121b0aa8bc14c9d1d0234d37314f268337a8e9d112f9c"), looks := false }, kinds := [], alts := [], laidByText := true, laidKinds := [.data], laidTests := true, laidLooks := .later }
def FnBaseFromCardSaid : Prop := Claim7.holds Tryd.pinned (.plain (OpenSpec.ofChange fnBaseFromSpec)) fnBaseFromCard

/-- THE TIED CARD OF 'laws.FnWaysOf'. -/
def fnWaysOfCard : Claim7 := { stood := { row := fnWaysOfRow, standIns := [], harness := (true, "105d637b77532c92cd1121b0aa8bc14c9d1d0234d37314f268337a8e9d112f9c"), looks := false }, kinds := [], alts := [], laidByText := true, laidKinds := [.data], laidTests := true, laidLooks := .later }
def FnWaysOfCardSaid : Prop := Claim7.holds Tryd.pinned (.plain (OpenSpec.ofChange fnWaysOfSpec)) fnWaysOfCard

/-- THE SECOND FORM's CARD OF 'laws.FnExactSecondOk'. -/
def fnExactSecondOkUptoCard : Claim7 := { stood := { row := fnExactSecondOkUptoRow, standIns := [], harness := (true, "105d637b77532c92cd1121b0aa8bc14c9d1d0234d37314f268337a8e9d112f9c"), looks := false }, kinds := [], alts := [], laidByText := true, laidKinds := [.data], laidTests := true, laidLooks := .later }
def FnExactSecondOkUptoCardSaid : Prop := Claim7.holds Tryd.pinned (.plain (OpenSpec.upto fnExactSecondOkSpec)) fnExactSecondOkUptoCard

/-- THE SECOND FORM's CARD OF 'laws.FnExactEnvelopeOf'. -/
def fnExactEnvelopeOfUptoCard : Claim7 := { stood := { row := fnExactEnvelopeOfUptoRow, standIns := [], harness := (true, "105d637b77532c92cd1121b0aa8bc14c9d1d0234d37314f268337a8e9d112f9c"), looks := false }, kinds := [], alts := [], laidByText := true, laidKinds := [.data], laidTests := true, laidLooks := .later }
def FnExactEnvelopeOfUptoCardSaid : Prop := Claim7.holds Tryd.pinned (.plain (OpenSpec.upto fnExactEnvelopeOfSpec)) fnExactEnvelopeOfUptoCard

/-- THE SECOND FORM's CARD OF 'laws.FnExactEnvelopeSum'. -/
def fnExactEnvelopeSumUptoCard : Claim7 := { stood := { row := fnExactEnvelopeSumUptoRow, standIns := [], harness := (true, "105d637b77532c92cd1121b0aa8bc14c9d1d0234d37314f268337a8e9d112f9c"), looks := false }, kinds := [], alts := [], laidByText := true, laidKinds := [.data], laidTests := true, laidLooks := .later }
def FnExactEnvelopeSumUptoCardSaid : Prop := Claim7.holds Tryd.pinned (.plain (OpenSpec.upto fnExactEnvelopeSumSpec)) fnExactEnvelopeSumUptoCard

/-- THE SECOND FORM's CARD OF 'laws.FnExactBaseFrom'. -/
def fnExactBaseFromUptoCard : Claim7 := { stood := { row := fnExactBaseFromUptoRow, standIns := [], harness := (true, "105d637b77532c92cd1121b0aa8bc14c9d1d0234d37314f268337a8e9d112f9c"), looks := false }, kinds := [], alts := [], laidByText := true, laidKinds := [.data], laidTests := true, laidLooks := .later }
def FnExactBaseFromUptoCardSaid : Prop := Claim7.holds Tryd.pinned (.plain (OpenSpec.upto fnExactBaseFromSpec)) fnExactBaseFromUptoCard

/-- THE SECOND FORM's CARD OF 'laws.FnExactWaysOf'. -/
def fnExactWaysOfUptoCard : Claim7 := { stood := { row := fnExactWaysOfUptoRow, standIns := [], harness := (true, "105d637b77532c92cd1121b0aa8bc14c9d1d0234d37314f268337a8e9d112f9c"), looks := false }, kinds := [], alts := [], laidByText := true, laidKinds := [.data], laidTests := true, laidLooks := .later }
def FnExactWaysOfUptoCardSaid : Prop := Claim7.holds Tryd.pinned (.plain (OpenSpec.upto fnExactWaysOfSpec)) fnExactWaysOfUptoCard

/-- THE SECOND FORM's CARD OF 'laws.FnSecondOk'. -/
def fnSecondOkUptoCard : Claim7 := { stood := { row := fnSecondOkUptoRow, standIns := [], harness := (true, "105d637b77532c92cd1121b0aa8bc14c9d1d0234d37314f268337a8e9d112f9c"), looks := false }, kinds := [], alts := [], laidByText := true, laidKinds := [.data], laidTests := true, laidLooks := .later }
def FnSecondOkUptoCardSaid : Prop := Claim7.holds Tryd.pinned (.plain (OpenSpec.upto fnSecondOkSpec)) fnSecondOkUptoCard

/-- THE SECOND FORM's CARD OF 'laws.FnEnvelopeOf'. -/
def fnEnvelopeOfUptoCard : Claim7 := { stood := { row := fnEnvelopeOfUptoRow, standIns := [], harness := (true, "105d637b77532c92cd1121b0aa8bc14c9d1d0234d37314f268337a8e9d112f9c"), looks := false }, kinds := [], alts := [], laidByText := true, laidKinds := [.data], laidTests := true, laidLooks := .later }
def FnEnvelopeOfUptoCardSaid : Prop := Claim7.holds Tryd.pinned (.plain (OpenSpec.upto fnEnvelopeOfSpec)) fnEnvelopeOfUptoCard

/-- THE SECOND FORM's CARD OF 'laws.FnEnvelopeSum'. -/
def fnEnvelopeSumUptoCard : Claim7 := { stood := { row := fnEnvelopeSumUptoRow, standIns := [], harness := (true, "105d637b77532c92cd1121b0aa8bc14c9d1d0234d37314f268337a8e9d112f9c"), looks := false }, kinds := [], alts := [], laidByText := true, laidKinds := [.data], laidTests := true, laidLooks := .later }
def FnEnvelopeSumUptoCardSaid : Prop := Claim7.holds Tryd.pinned (.plain (OpenSpec.upto fnEnvelopeSumSpec)) fnEnvelopeSumUptoCard

/-- THE SECOND FORM's CARD OF 'laws.FnBaseFrom'. -/
def fnBaseFromUptoCard : Claim7 := { stood := { row := fnBaseFromUptoRow, standIns := [], harness := (true, "105d637b77532c92cd1121b0aa8bc14c9d1d0234d37314f268337a8e9d112f9c"), looks := false }, kinds := [], alts := [], laidByText := true, laidKinds := [.data], laidTests := true, laidLooks := .later }
def FnBaseFromUptoCardSaid : Prop := Claim7.holds Tryd.pinned (.plain (OpenSpec.upto fnBaseFromSpec)) fnBaseFromUptoCard

/-- THE SECOND FORM's CARD OF 'laws.FnWaysOf'. -/
def fnWaysOfUptoCard : Claim7 := { stood := { row := fnWaysOfUptoRow, standIns := [], harness := (true, "105d637b77532c92cd1121b0aa8bc14c9d1d0234d37314f268337a8e9d112f9c"), looks := false }, kinds := [], alts := [], laidByText := true, laidKinds := [.data], laidTests := true, laidLooks := .later }
def FnWaysOfUptoCardSaid : Prop := Claim7.holds Tryd.pinned (.plain (OpenSpec.upto fnWaysOfSpec)) fnWaysOfUptoCard
end Rows
end Go.Proofs.YtljekapbcphdaaaDoor
