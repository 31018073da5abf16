/-
  DERIVED. GIVEN WITH THE SEED: THE CARDS: each row of YtahegppdfcndkaaDoorRows.lean that lists a variable, with what it lists TIED to the program's text (the seventh form; the later family's looks); each row that meets fmt, with fmt's text TOLD by the authors' own Lean function (tested against real Go, not proved from fmt's source: count such statements apart). THE CARD IS WHAT COUNTS. Prove the row's statement (the work); the ties are given (YtahegppdfcndkaaDoorTie.lean); close each card by the builder's one call (the guide's Derived/Test/ToyasCard.lean, 'card_holds'). Laid BY PROGRAM, IN A SANDBOX (cutbox-door.mjs). By AI agents, Wed Nov 11 2026. No macro, syntax, notation, axiom, sorry.
-/
import Derived.Test.YtahegppdfcndkaaDoorRows
import GoSem.ClaimSeven
namespace Go.Proofs.YtahegppdfcndkaaDoor
namespace Rows

/-- THE TIED CARD OF 'laws.FnHeardFrom'. -/
def fnHeardFromCard : Claim7 := { stood := { row := fnHeardFromRow, standIns := [], harness := (true, "e311ed1d5450f68ebf367f35b92580e401ef4453572ee985fd54ce521804e2dd"), looks := false }, kinds := [], alts := [], laidByText := true, laidKinds := [.data], laidTests := true, laidLooks := .later }
def FnHeardFromCardSaid : Prop := Claim7.holds Tryd.pinned (.plain (OpenSpec.ofChange fnHeardFromSpec)) fnHeardFromCard

/-- THE TIED CARD OF 'laws.FnKeptBy'. -/
def fnKeptByCard : Claim7 := { stood := { row := fnKeptByRow, standIns := [], harness := (true, "e311ed1d5450f68ebf367f35b92580e401ef4453572ee985fd54ce521804e2dd"), looks := false }, kinds := [], alts := [], laidByText := true, laidKinds := [.data], laidTests := true, laidLooks := .later }
def FnKeptByCardSaid : Prop := Claim7.holds Tryd.pinned (.plain (OpenSpec.ofChange fnKeptBySpec)) fnKeptByCard

/-- THE SECOND FORM's CARD OF 'laws.FnHeardFrom'. -/
def fnHeardFromUptoCard : Claim7 := { stood := { row := fnHeardFromUptoRow, standIns := [], harness := (true, "e311ed1d5450f68ebf367f35b92580e401ef4453572ee985fd54ce521804e2dd"), looks := false }, kinds := [], alts := [], laidByText := true, laidKinds := [.data], laidTests := true, laidLooks := .later }
def FnHeardFromUptoCardSaid : Prop := Claim7.holds Tryd.pinned (.plain (OpenSpec.upto fnHeardFromSpec)) fnHeardFromUptoCard

/-- THE SECOND FORM's CARD OF 'laws.FnKeptBy'. -/
def fnKeptByUptoCard : Claim7 := { stood := { row := fnKeptByUptoRow, standIns := [], harness := (true, "e311ed1d5450f68ebf367f35b92580e401ef4453572ee985fd54ce521804e2dd"), looks := false }, kinds := [], alts := [], laidByText := true, laidKinds := [.data], laidTests := true, laidLooks := .later }
def FnKeptByUptoCardSaid : Prop := Claim7.holds Tryd.pinned (.plain (OpenSpec.upto fnKeptBySpec)) fnKeptByUptoCard
end Rows
end Go.Proofs.YtahegppdfcndkaaDoor
