/-
  DERIVED. GIVEN WITH THE SEED: THE CARDS: each row of YtljekapbcphdaabDoorRows.lean that lists a variable, with what it lists TIED to the program's text (the seventh form; the later family's looks); each row that meets fmt, with fmt's text TOLD by the authors' own Lean function (tested against real Go, not proved from fmt's source: count such statements apart). THE CARD IS WHAT COUNTS. Prove the row's statement (the work); the ties are given (YtljekapbcphdaabDoorTie.lean); close each card by the builder's one call (the guide's Derived/Test/ToyasCard.lean, 'card_holds'). Laid BY PROGRAM, IN A SANDBOX (cutbox-door.mjs). By AI agents, Wed Nov 11 2026. No macro, syntax, notation, axiom, sorry.
-/
import Derived.Test.YtljekapbcphdaabDoorRows
import GoSem.ClaimSeven
namespace Go.Proofs.YtljekapbcphdaabDoor
namespace Rows

/-- THE TIED CARD OF 'laws.FnExactEnvelopeOk'. -/
def fnExactEnvelopeOkCard : Claim7 := { stood := { row := fnExactEnvelopeOkRow, standIns := [], harness := (true, "016468a08dda50bac4e0d619ad41c74f3c7a682f46e9a04d2f50a19fc4d846a2"), looks := false }, kinds := [], alts := [], laidByText := true, laidKinds := [.data], laidTests := true, laidLooks := .later }
def FnExactEnvelopeOkCardSaid : Prop := Claim7.holds Tryd.pinned (.plain (OpenSpec.ofChange fnExactEnvelopeOkSpec)) fnExactEnvelopeOkCard

/-- THE TIED CARD OF 'laws.FnExactClaimOpen'. -/
def fnExactClaimOpenCard : Claim7 := { stood := { row := fnExactClaimOpenRow, standIns := [], harness := (true, "016468a08dda50bac4e0d619ad41c74f3c7a682f46e9a04d2f50a19fc4d846a2"), looks := false }, kinds := [], alts := [], laidByText := true, laidKinds := [.data], laidTests := true, laidLooks := .later }
def FnExactClaimOpenCardSaid : Prop := Claim7.holds Tryd.pinned (.plain (OpenSpec.ofChange fnExactClaimOpenSpec)) fnExactClaimOpenCard

/-- THE TIED CARD OF 'laws.FnExactClaimNumber'. -/
def fnExactClaimNumberCard : Claim7 := { stood := { row := fnExactClaimNumberRow, standIns := [], harness := (true, "016468a08dda50bac4e0d619ad41c74f3c7a682f46e9a04d2f50a19fc4d846a2"), looks := false }, kinds := [], alts := [], laidByText := true, laidKinds := [.data], laidTests := true, laidLooks := .later }
def FnExactClaimNumberCardSaid : Prop := Claim7.holds Tryd.pinned (.plain (OpenSpec.ofChange fnExactClaimNumberSpec)) fnExactClaimNumberCard

/-- THE TIED CARD OF 'laws.FnExactClaimSame'. -/
def fnExactClaimSameCard : Claim7 := { stood := { row := fnExactClaimSameRow, standIns := [], harness := (true, "016468a08dda50bac4e0d619ad41c74f3c7a682f46e9a04d2f50a19fc4d846a2"), looks := false }, kinds := [], alts := [], laidByText := true, laidKinds := [.data], laidTests := true, laidLooks := .later }
def FnExactClaimSameCardSaid : Prop := Claim7.holds Tryd.pinned (.plain (OpenSpec.ofChange fnExactClaimSameSpec)) fnExactClaimSameCard

/-- THE TIED CARD OF 'laws.FnEnvelopeOk'. -/
def fnEnvelopeOkCard : Claim7 := { stood := { row := fnEnvelopeOkRow, standIns := [], harness := (true, "016468a08dda50bac4e0d619ad41c74f3c7a682f46e9a04d2f50a19fc4d846a2"), looks := false }, kinds := [], alts := [], laidByText := true, laidKinds := [.data], laidTests := true, laidLooks := .later }
def FnEnvelopeOkCardSaid : Prop := Claim7.holds Tryd.pinned (.plain (OpenSpec.ofChange fnEnvelopeOkSpec)) fnEnvelopeOkCard

/-- THE TIED CARD OF 'laws.FnClaimOpen'. -/
def fnClaimOpenCard : Claim7 := { stood := { row := fnClaimOpenRow, standIns := [], harness := (true, "016468a08dda50bac4e0d619ad41c74f3c7a682f46e9a04d2f50a19fc4d846a2"), looks := false }, kinds := [], alts := [], laidByText := true, laidKinds := [.data], laidTests := true, laidLooks := .later }
def FnClaimOpenCardSaid : Prop := Claim7.holds Tryd.pinned (.plain (OpenSpec.ofChange fnClaimOpenSpec)) fnClaimOpenCard

/-- THE TIED CARD OF 'laws.FnClaimNumber'. -/
def fnClaimNumberCard : Claim7 := { stood := { row := fnClaimNumberRow, standIns := [], harness := (true, "016468a08dda50bac4e0d619ad41c74f3c7a682f46e9a04d2f50a19fc4d846a2"), looks := false }, kinds := [], alts := [], laidByText := true, laidKinds := [.data], laidTests := true, laidLooks := .later }
def FnClaimNumberCardSaid : Prop := Claim7.holds Tryd.pinned (.plain (OpenSpec.ofChange fnClaimNumberSpec)) fnClaimNumberCard

/-- THE TIED CARD OF 'laws.FnClaimSame'. -/
def fnClaimSameCard : Claim7 := { stood := { row := fnClaimSameRow, standIns := [], harness := (true, "016468a08dda50bac4e0d619ad41c74f3c7a682f46e9a04d2f50a19fc4d846a2"), looks := false }, kinds := [], alts := [], laidByText := true, laidKinds := [.data], laidTests := true, laidLooks := .later }
def FnClaimSameCardSaid : Prop := Claim7.holds Tryd.pinned (.plain (OpenSpec.ofChange fnClaimSameSpec)) fnClaimSameCard

/-- THE TIED CARD OF 'laws.FnExactTalksBy'. -/
def fnExactTalksByCard : Claim7 := { stood := { row := fnExactTalksByRow, standIns := [], harness := (true, "016468a08dda50bac4e0d619ad41c74f3c7a682f46e9a04d2f50a19fc4d846a2"), looks := false }, kinds := [], alts := [], laidByText := true, laidKinds := [.data], laidTests := true, laidLooks := .later }
def FnExactTalksByCardSaid : Prop := Claim7.holds Tryd.pinned (.plain (OpenSpec.ofChange fnExactTalksBySpec)) fnExactTalksByCard

/-- THE TIED CARD OF 'laws.FnTalksBy'. -/
def fnTalksByCard : Claim7 := { stood := { row := fnTalksByRow, standIns := [], harness := (true, "016468a08dda50bac4e0d619ad41c74f3c7a682f46e9a04d2f50a19fc4d846a2"), looks := false }, kinds := [], alts := [], laidByText := true, laidKinds := [.data], laidTests := true, laidLooks := .later }
def FnTalksByCardSaid : Prop := Claim7.holds Tryd.pinned (.plain (OpenSpec.ofChange fnTalksBySpec)) fnTalksByCard

/-- THE SECOND FORM's CARD OF 'laws.FnExactEnvelopeOk'. -/
def fnExactEnvelopeOkUptoCard : Claim7 := { stood := { row := fnExactEnvelopeOkUptoRow, standIns := [], harness := (true, "016468a08dda50bac4e0d619ad41c74f3c7a682f46e9a04d2f50a19fc4d846a2"), looks := false }, kinds := [], alts := [], laidByText := true, laidKinds := [.data], laidTests := true, laidLooks := .later }
def FnExactEnvelopeOkUptoCardSaid : Prop := Claim7.holds Tryd.pinned (.plain (OpenSpec.upto fnExactEnvelopeOkSpec)) fnExactEnvelopeOkUptoCard

/-- THE SECOND FORM's CARD OF 'laws.FnExactClaimOpen'. -/
def fnExactClaimOpenUptoCard : Claim7 := { stood := { row := fnExactClaimOpenUptoRow, standIns := [], harness := (true, "016468a08dda50bac4e0d619ad41c74f3c7a682f46e9a04d2f50a19fc4d846a2"), looks := false }, kinds := [], alts := [], laidByText := true, laidKinds := [.data], laidTests := true, laidLooks := .later }
def FnExactClaimOpenUptoCardSaid : Prop := Claim7.holds Tryd.pinned (.plain (OpenSpec.upto fnExactClaimOpenSpec)) fnExactClaimOpenUptoCard

/-- THE SECOND FORM's CARD OF 'laws.FnExactClaimNumber'. -/
def fnExactClaimNumberUptoCard : Claim7 := { stood := { row := fnExactClaimNumberUptoRow, standIns := [], harness := (true, "016468a08dda50bac4e0d619ad41c74f3c7a682f46e9a04d2f50a19fc4d846a2"), looks := false }, kinds := [], alts := [], laidByText := true, laidKinds := [.data], laidTests := true, laidLooks := .later }
def FnExactClaimNumberUptoCardSaid : Prop := Claim7.holds Tryd.pinned (.plain (OpenSpec.upto fnExactClaimNumberSpec)) fnExactClaimNumberUptoCard

/-- THE SECOND FORM's CARD OF 'laws.FnExactClaimSame'. -/
def fnExactClaimSameUptoCard : Claim7 := { stood := { row := fnExactClaimSameUptoRow, standIns := [], harness := (true, "016468a08dda50bac4e0d619ad41c74f3c7a682f46e9a04d2f50a19fc4d846a2"), looks := false }, kinds := [], alts := [], laidByText := true, laidKinds := [.data], laidTests := true, laidLooks := .later }
def FnExactClaimSameUptoCardSaid : Prop := Claim7.holds Tryd.pinned (.plain (OpenSpec.upto fnExactClaimSameSpec)) fnExactClaimSameUptoCard

/-- THE SECOND FORM's CARD OF 'laws.FnEnvelopeOk'. -/
def fnEnvelopeOkUptoCard : Claim7 := { stood := { row := fnEnvelopeOkUptoRow, standIns := [], harness := (true, "016468a08dda50bac4e0d619ad41c74f3c7a682f46e9a04d2f50a19fc4d846a2"), looks := false }, kinds := [], alts := [], laidByText := true, laidKinds := [.data], laidTests := true, laidLooks := .later }
def FnEnvelopeOkUptoCardSaid : Prop := Claim7.holds Tryd.pinned (.plain (OpenSpec.upto fnEnvelopeOkSpec)) fnEnvelopeOkUptoCard

/-- THE SECOND FORM's CARD OF 'laws.FnClaimOpen'. -/
def fnClaimOpenUptoCard : Claim7 := { stood := { row := fnClaimOpenUptoRow, standIns := [], harness := (true, "016468a08dda50bac4e0d619ad41c74f3c7a682f46e9a04d2f50a19fc4d846a2"), looks := false }, kinds := [], alts := [], laidByText := true, laidKinds := [.data], laidTests := true, laidLooks := .later }
def FnClaimOpenUptoCardSaid : Prop := Claim7.holds Tryd.pinned (.plain (OpenSpec.upto fnClaimOpenSpec)) fnClaimOpenUptoCard

/-- THE SECOND FORM's CARD OF 'laws.FnClaimNumber'. -/
def fnClaimNumberUptoCard : Claim7 := { stood := { row := fnClaimNumberUptoRow, standIns := [], harness := (true, "016468a08dda50bac4e0d619ad41c74f3c7a682f46e9a04d2f50a19fc4d846a2"), looks := false }, kinds := [], alts := [], laidByText := true, laidKinds := [.data], laidTests := true, laidLooks := .later }
def FnClaimNumberUptoCardSaid : Prop := Claim7.holds Tryd.pinned (.plain (OpenSpec.upto fnClaimNumberSpec)) fnClaimNumberUptoCard

/-- THE SECOND FORM's CARD OF 'laws.FnClaimSame'. -/
def fnClaimSameUptoCard : Claim7 := { stood := { row := fnClaimSameUptoRow, standIns := [], harness := (true, "016468a08dda50bac4e0d619ad41c74f3c7a682f46e9a04d2f50a19fc4d846a2"), looks := false }, kinds := [], alts := [], laidByText := true, laidKinds := [.data], laidTests := true, laidLooks := .later }
def FnClaimSameUptoCardSaid : Prop := Claim7.holds Tryd.pinned (.plain (OpenSpec.upto fnClaimSameSpec)) fnClaimSameUptoCard

/-- THE SECOND FORM's CARD OF 'laws.FnExactTalksBy'. -/
def fnExactTalksByUptoCard : Claim7 := { stood := { row := fnExactTalksByUptoRow, standIns := [], harness := (true, "016468a08dda50bac4e0d619ad41c74f3c7a682f46e9a04d2f50a19fc4d846a2"), looks := false }, kinds := [], alts := [], laidByText := true, laidKinds := [.data], laidTests := true, laidLooks := .later }
def FnExactTalksByUptoCardSaid : Prop := Claim7.holds Tryd.pinned (.plain (OpenSpec.upto fnExactTalksBySpec)) fnExactTalksByUptoCard

/-- THE SECOND FORM's CARD OF 'laws.FnTalksBy'. -/
def fnTalksByUptoCard : Claim7 := { stood := { row := fnTalksByUptoRow, standIns := [], harness := (true, "016468a08dda50bac4e0d619ad41c74f3c7a682f46e9a04d2f50a19fc4d846a2"), looks := false }, kinds := [], alts := [], laidByText := true, laidKinds := [.data], laidTests := true, laidLooks := .later }
def FnTalksByUptoCardSaid : Prop := Claim7.holds Tryd.pinned (.plain (OpenSpec.upto fnTalksBySpec)) fnTalksByUptoCard
end Rows
end Go.Proofs.YtljekapbcphdaabDoor
