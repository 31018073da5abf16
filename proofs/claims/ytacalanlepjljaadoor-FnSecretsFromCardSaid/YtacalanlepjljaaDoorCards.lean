/-
  DERIVED. GIVEN WITH THE SEED: THE CARDS: each row of YtacalanlepjljaaDoorRows.lean that lists a variable, with what it lists TIED to the program's text (the seventh form; the later family's looks); each row that meets fmt, with fmt's text TOLD by the authors' own Lean function (tested against real Go, not proved from fmt's source: count such statements apart). THE CARD IS WHAT COUNTS. Prove the row's statement (the work); the ties are given (YtacalanlepjljaaDoorTie.lean); close each card by the builder's one call (the guide's Derived/Test/ToyasCard.lean, 'card_holds'). Laid BY PROGRAM, IN A SANDBOX (cutbox-door.mjs). By AI agents, Wed Nov 11 2026. No macro, syntax, notation, axiom, sorry.
-/
import Derived.Test.YtacalanlepjljaaDoorRows
import GoSem.ClaimSeven
namespace Go.Proofs.YtacalanlepjljaaDoor
namespace Rows

/-- THE TIED CARD OF 'laws.FnExactSomeOf'. -/
def fnExactSomeOfCard : Claim7 := { stood := { row := fnExactSomeOfRow, standIns := [], harness := (true, "9e7f905f171d2defeebdbf9d21ee1af3a46fa98acb1fa0ee75a1d75f64f965e2"), looks := false }, kinds := [], alts := [], laidByText := true, laidKinds := [.data], laidTests := true, laidLooks := .later }
def FnExactSomeOfCardSaid : Prop := Claim7.holds Tryd.pinned (.plain (OpenSpec.ofChange fnExactSomeOfSpec)) fnExactSomeOfCard

/-- THE TIED CARD OF 'laws.FnExactTalksBy'. -/
def fnExactTalksByCard : Claim7 := { stood := { row := fnExactTalksByRow, standIns := [], harness := (true, "9e7f905f171d2defeebdbf9d21ee1af3a46fa98acb1fa0ee75a1d75f64f965e2"), looks := false }, kinds := [], alts := [], laidByText := true, laidKinds := [.data], laidTests := true, laidLooks := .later }
def FnExactTalksByCardSaid : Prop := Claim7.holds Tryd.pinned (.plain (OpenSpec.ofChange fnExactTalksBySpec)) fnExactTalksByCard

/-- THE TIED CARD OF 'laws.FnLinesUp'. -/
def fnLinesUpCard : Claim7 := { stood := { row := fnLinesUpRow, standIns := [], harness := (true, "9e7f905f171d2defeebdbf9d21ee1af3a46fa98acb1fa0ee75a1d75f64f965e2"), looks := false }, kinds := [], alts := [], laidByText := true, laidKinds := [.data], laidTests := true, laidLooks := .later }
def FnLinesUpCardSaid : Prop := Claim7.holds Tryd.pinned (.plain (OpenSpec.ofChange fnLinesUpSpec)) fnLinesUpCard

/-- THE TIED CARD OF 'laws.FnSomeOk'. -/
def fnSomeOkCard : Claim7 := { stood := { row := fnSomeOkRow, standIns := [], harness := (true, "9e7f905f171d2defeebdbf9d21ee1af3a46fa98acb1fa0ee75a1d75f64f965e2"), looks := false }, kinds := [], alts := [], laidByText := true, laidKinds := [.data], laidTests := true, laidLooks := .later }
def FnSomeOkCardSaid : Prop := Claim7.holds Tryd.pinned (.plain (OpenSpec.ofChange fnSomeOkSpec)) fnSomeOkCard

/-- THE TIED CARD OF 'laws.FnSomeOf'. -/
def fnSomeOfCard : Claim7 := { stood := { row := fnSomeOfRow, standIns := [], harness := (true, "9e7f905f171d2defeebdbf9d21ee1af3a46fa98acb1fa0ee75a1d75f64f965e2"), looks := false }, kinds := [], alts := [], laidByText := true, laidKinds := [.data], laidTests := true, laidLooks := .later }
def FnSomeOfCardSaid : Prop := Claim7.holds Tryd.pinned (.plain (OpenSpec.ofChange fnSomeOfSpec)) fnSomeOfCard

/-- THE TIED CARD OF 'laws.FnSecretsFrom'. -/
def fnSecretsFromCard : Claim7 := { stood := { row := fnSecretsFromRow, standIns := [], harness := (true, "9e7f905f171d2defeebdbf9d21ee1af3a46fa98acb1fa0ee75a1d75f64f965e2"), looks := false }, kinds := [], alts := [], laidByText := true, laidKinds := [.data], laidTests := true, laidLooks := .later }
def FnSecretsFromCardSaid : Prop := Claim7.holds Tryd.pinned (.plain (OpenSpec.ofChange fnSecretsFromSpec)) fnSecretsFromCard

/-- THE TIED CARD OF 'laws.FnSomeMany'. -/
def fnSomeManyCard : Claim7 := { stood := { row := fnSomeManyRow, standIns := [], harness := (true, "9e7f905f171d2defeebdbf9d21ee1af3a46fa98acb1fa0ee75a1d75f64f965e2"), looks := false }, kinds := [], alts := [], laidByText := true, laidKinds := [.data], laidTests := true, laidLooks := .later }
def FnSomeManyCardSaid : Prop := Claim7.holds Tryd.pinned (.plain (OpenSpec.ofChange fnSomeManySpec)) fnSomeManyCard

/-- THE TIED CARD OF 'laws.FnTalksBy'. -/
def fnTalksByCard : Claim7 := { stood := { row := fnTalksByRow, standIns := [], harness := (true, "9e7f905f171d2defeebdbf9d21ee1af3a46fa98acb1fa0ee75a1d75f64f965e2"), looks := false }, kinds := [], alts := [], laidByText := true, laidKinds := [.data], laidTests := true, laidLooks := .later }
def FnTalksByCardSaid : Prop := Claim7.holds Tryd.pinned (.plain (OpenSpec.ofChange fnTalksBySpec)) fnTalksByCard

/-- THE SECOND FORM's CARD OF 'laws.FnExactSomeOf'. -/
def fnExactSomeOfUptoCard : Claim7 := { stood := { row := fnExactSomeOfUptoRow, standIns := [], harness := (true, "9e7f905f171d2defeebdbf9d21ee1af3a46fa98acb1fa0ee75a1d75f64f965e2"), looks := false }, kinds := [], alts := [], laidByText := true, laidKinds := [.data], laidTests := true, laidLooks := .later }
def FnExactSomeOfUptoCardSaid : Prop := Claim7.holds Tryd.pinned (.plain (OpenSpec.upto fnExactSomeOfSpec)) fnExactSomeOfUptoCard

/-- THE SECOND FORM's CARD OF 'laws.FnExactTalksBy'. -/
def fnExactTalksByUptoCard : Claim7 := { stood := { row := fnExactTalksByUptoRow, standIns := [], harness := (true, "9e7f905f171d2defeebdbf9d21ee1af3a46fa98acb1fa0ee75a1d75f64f965e2"), looks := false }, kinds := [], alts := [], laidByText := true, laidKinds := [.data], laidTests := true, laidLooks := .later }
def FnExactTalksByUptoCardSaid : Prop := Claim7.holds Tryd.pinned (.plain (OpenSpec.upto fnExactTalksBySpec)) fnExactTalksByUptoCard

/-- THE SECOND FORM's CARD OF 'laws.FnLinesUp'. -/
def fnLinesUpUptoCard : Claim7 := { stood := { row := fnLinesUpUptoRow, standIns := [], harness := (true, "9e7f905f171d2defeebdbf9d21ee1af3a46fa98acb1fa0ee75a1d75f64f965e2"), looks := false }, kinds := [], alts := [], laidByText := true, laidKinds := [.data], laidTests := true, laidLooks := .later }
def FnLinesUpUptoCardSaid : Prop := Claim7.holds Tryd.pinned (.plain (OpenSpec.upto fnLinesUpSpec)) fnLinesUpUptoCard

/-- THE SECOND FORM's CARD OF 'laws.FnSomeOk'. -/
def fnSomeOkUptoCard : Claim7 := { stood := { row := fnSomeOkUptoRow, standIns := [], harness := (true, "9e7f905f171d2defeebdbf9d21ee1af3a46fa98acb1fa0ee75a1d75f64f965e2"), looks := false }, kinds := [], alts := [], laidByText := true, laidKinds := [.data], laidTests := true, laidLooks := .later }
def FnSomeOkUptoCardSaid : Prop := Claim7.holds Tryd.pinned (.plain (OpenSpec.upto fnSomeOkSpec)) fnSomeOkUptoCard

/-- THE SECOND FORM's CARD OF 'laws.FnSomeOf'. -/
def fnSomeOfUptoCard : Claim7 := { stood := { row := fnSomeOfUptoRow, standIns := [], harness := (true, "9e7f905f171d2defeebdbf9d21ee1af3a46fa98acb1fa0ee75a1d75f64f965e2"), looks := false }, kinds := [], alts := [], laidByText := true, laidKinds := [.data], laidTests := true, laidLooks := .later }
def FnSomeOfUptoCardSaid : Prop := Claim7.holds Tryd.pinned (.plain (OpenSpec.upto fnSomeOfSpec)) fnSomeOfUptoCard

/-- THE SECOND FORM's CARD OF 'laws.FnSecretsFrom'. -/
def fnSecretsFromUptoCard : Claim7 := { stood := { row := fnSecretsFromUptoRow, standIns := [], harness := (true, "9e7f905f171d2defeebdbf9d21ee1af3a46fa98acb1fa0ee75a1d75f64f965e2"), looks := false }, kinds := [], alts := [], laidByText := true, laidKinds := [.data], laidTests := true, laidLooks := .later }
def FnSecretsFromUptoCardSaid : Prop := Claim7.holds Tryd.pinned (.plain (OpenSpec.upto fnSecretsFromSpec)) fnSecretsFromUptoCard

/-- THE SECOND FORM's CARD OF 'laws.FnSomeMany'. -/
def fnSomeManyUptoCard : Claim7 := { stood := { row := fnSomeManyUptoRow, standIns := [], harness := (true, "9e7f905f171d2defeebdbf9d21ee1af3a46fa98acb1fa0ee75a1d75f64f965e2"), looks := false }, kinds := [], alts := [], laidByText := true, laidKinds := [.data], laidTests := true, laidLooks := .later }
def FnSomeManyUptoCardSaid : Prop := Claim7.holds Tryd.pinned (.plain (OpenSpec.upto fnSomeManySpec)) fnSomeManyUptoCard

/-- THE SECOND FORM's CARD OF 'laws.FnTalksBy'. -/
def fnTalksByUptoCard : Claim7 := { stood := { row := fnTalksByUptoRow, standIns := [], harness := (true, "9e7f905f171d2defeebdbf9d21ee1af3a46fa98acb1fa0ee75a1d75f64f965e2"), looks := false }, kinds := [], alts := [], laidByText := true, laidKinds := [.data], laidTests := true, laidLooks := .later }
def FnTalksByUptoCardSaid : Prop := Claim7.holds Tryd.pinned (.plain (OpenSpec.upto fnTalksBySpec)) fnTalksByUptoCard
end Rows
end Go.Proofs.YtacalanlepjljaaDoor
