/-
  DERIVED. GIVEN WITH THE SEED: THE CARDS: each row of YtlcegpmhlnilfaaDoorRows.lean that lists a variable, with what it lists TIED to the program's text (the seventh form; the later family's looks); each row that meets fmt, with fmt's text TOLD by the authors' own Lean function (tested against real Go, not proved from fmt's source: count such statements apart). THE CARD IS WHAT COUNTS. Prove the row's statement (the work); the ties are given (YtlcegpmhlnilfaaDoorTie.lean); close each card by the builder's one call (the guide's Derived/Test/ToyasCard.lean, 'card_holds'). Laid BY PROGRAM, IN A SANDBOX (cutbox-door.mjs). By AI agents, Wed Nov 11 2026. No macro, syntax, notation, axiom, sorry.
-/
import Derived.Test.YtlcegpmhlnilfaaDoorRows
import GoSem.ClaimSeven
namespace Go.Proofs.YtlcegpmhlnilfaaDoor
namespace Rows

/-- THE TIED CARD OF 'laws.FnExactAskerOk'. -/
def fnExactAskerOkCard : Claim7 := { stood := { row := fnExactAskerOkRow, standIns := [], harness := (true, "4e8c04b8a10cb1949a7b5445f9858fefaff738e6ecc7067c160ff2a4b3b6431a"), looks := false }, kinds := [], alts := [], laidByText := true, laidKinds := [.data], laidTests := true, laidLooks := .later }
def FnExactAskerOkCardSaid : Prop := Claim7.holds Tryd.pinned (.plain (OpenSpec.ofChange fnExactAskerOkSpec)) fnExactAskerOkCard

/-- THE TIED CARD OF 'laws.FnExactAskedBy'. -/
def fnExactAskedByCard : Claim7 := { stood := { row := fnExactAskedByRow, standIns := [], harness := (true, "4e8c04b8a10cb1949a7b5445f9858fefaff738e6ecc7067c160ff2a4b3b6431a"), looks := false }, kinds := [], alts := [], laidByText := true, laidKinds := [.data], laidTests := true, laidLooks := .later }
def FnExactAskedByCardSaid : Prop := Claim7.holds Tryd.pinned (.plain (OpenSpec.ofChange fnExactAskedBySpec)) fnExactAskedByCard

/-- THE TIED CARD OF 'laws.FnExactHeardFrom'. -/
def fnExactHeardFromCard : Claim7 := { stood := { row := fnExactHeardFromRow, standIns := [], harness := (true, "4e8c04b8a10cb1949a7b5445f9858fefaff738e6ecc7067c160ff2a4b3b6431a"), looks := false }, kinds := [], alts := [], laidByText := true, laidKinds := [.data], laidTests := true, laidLooks := .later }
def FnExactHeardFromCardSaid : Prop := Claim7.holds Tryd.pinned (.plain (OpenSpec.ofChange fnExactHeardFromSpec)) fnExactHeardFromCard

/-- THE TIED CARD OF 'laws.FnExactKeptBy'. -/
def fnExactKeptByCard : Claim7 := { stood := { row := fnExactKeptByRow, standIns := [], harness := (true, "4e8c04b8a10cb1949a7b5445f9858fefaff738e6ecc7067c160ff2a4b3b6431a"), looks := false }, kinds := [], alts := [], laidByText := true, laidKinds := [.data], laidTests := true, laidLooks := .later }
def FnExactKeptByCardSaid : Prop := Claim7.holds Tryd.pinned (.plain (OpenSpec.ofChange fnExactKeptBySpec)) fnExactKeptByCard

/-- THE SECOND FORM's CARD OF 'laws.FnExactAskerOk'. -/
def fnExactAskerOkUptoCard : Claim7 := { stood := { row := fnExactAskerOkUptoRow, standIns := [], harness := (true, "4e8c04b8a10cb1949a7b5445f9858fefaff738e6ecc7067c160ff2a4b3b6431a"), looks := false }, kinds := [], alts := [], laidByText := true, laidKinds := [.data], laidTests := true, laidLooks := .later }
def FnExactAskerOkUptoCardSaid : Prop := Claim7.holds Tryd.pinned (.plain (OpenSpec.upto fnExactAskerOkSpec)) fnExactAskerOkUptoCard

/-- THE SECOND FORM's CARD OF 'laws.FnExactAskedBy'. -/
def fnExactAskedByUptoCard : Claim7 := { stood := { row := fnExactAskedByUptoRow, standIns := [], harness := (true, "4e8c04b8a10cb1949a7b5445f9858fefaff738e6ecc7067c160ff2a4b3b6431a"), looks := false }, kinds := [], alts := [], laidByText := true, laidKinds := [.data], laidTests := true, laidLooks := .later }
def FnExactAskedByUptoCardSaid : Prop := Claim7.holds Tryd.pinned (.plain (OpenSpec.upto fnExactAskedBySpec)) fnExactAskedByUptoCard

/-- THE SECOND FORM's CARD OF 'laws.FnExactHeardFrom'. -/
def fnExactHeardFromUptoCard : Claim7 := { stood := { row := fnExactHeardFromUptoRow, standIns := [], harness := (true, "4e8c04b8a10cb1949a7b5445f9858fefaff738e6ecc7067c160ff2a4b3b6431a"), looks := false }, kinds := [], alts := [], laidByText := true, laidKinds := [.data], laidTests := true, laidLooks := .later }
def FnExactHeardFromUptoCardSaid : Prop := Claim7.holds Tryd.pinned (.plain (OpenSpec.upto fnExactHeardFromSpec)) fnExactHeardFromUptoCard

/-- THE SECOND FORM's CARD OF 'laws.FnExactKeptBy'. -/
def fnExactKeptByUptoCard : Claim7 := { stood := { row := fnExactKeptByUptoRow, standIns := [], harness := (true, "4e8c04b8a10cb1949a7b5445f9858fefaff738e6ecc7067c160ff2a4b3b6431a"), looks := false }, kinds := [], alts := [], laidByText := true, laidKinds := [.data], laidTests := true, laidLooks := .later }
def FnExactKeptByUptoCardSaid : Prop := Claim7.holds Tryd.pinned (.plain (OpenSpec.upto fnExactKeptBySpec)) fnExactKeptByUptoCard
end Rows
end Go.Proofs.YtlcegpmhlnilfaaDoor
