/-
  DERIVED. GIVEN WITH THE SEED: THE CARDS: each row of YtacaeoalplggfacDoorRows.lean that lists a variable, with what it lists TIED to the program's text (the seventh form; the later family's looks); each row that meets fmt, with fmt's text TOLD by the authors' own Lean function (tested against real Go, not proved from fmt's source: count such statements apart). THE CARD IS WHAT COUNTS. Prove the row's statement (the work); the ties are given (YtacaeoalplggfacDoorTie.lean); close each card by the builder's one call (the guide's Derived/Test/ToyasCard.lean, 'card_holds'). Laid BY PROGRAM, IN A SANDBOX (cutbox-door.mjs). By AI agents, Wed Nov 11 2026. No macro, syntax, notation, axiom, sorry.
-/
import Derived.Test.YtacaeoalplggfacDoorRows
import GoSem.ClaimSeven
namespace Go.Proofs.YtacaeoalplggfacDoor
namespace Rows

/-- THE TIED CARD OF 'laws.FnTalkText'. -/
def fnTalkTextCard : Claim7 := { stood := { row := fnTalkTextRow, standIns := [], harness := (true, "5d33113d9f5ebc79a7eab2052d37988338b97cdb1eb8142f1bf91c9e07ad3756"), looks := true }, kinds := [], alts := [], laidByText := true, laidKinds := [.data, .data, .data, .sentinel, .sentinel, .data], laidTests := true, laidLooks := .later }
def FnTalkTextCardSaid : Prop := Claim7.holds Tryd.pinned (.plain (OpenSpec.ofChange fnTalkTextSpec)) fnTalkTextCard

/-- THE TIED CARD OF 'laws.FnReadTalk'. -/
def fnReadTalkCard : Claim7 := { stood := { row := fnReadTalkRow, standIns := [], harness := (true, "5d33113d9f5ebc79a7eab2052d37988338b97cdb1eb8142f1bf91c9e07ad3756"), looks := true }, kinds := [], alts := [], laidByText := true, laidKinds := [.data, .data, .data, .sentinel, .sentinel, .data], laidTests := true, laidLooks := .later }
def FnReadTalkCardSaid : Prop := Claim7.holds Tryd.pinned (.plain (OpenSpec.ofChange fnReadTalkSpec)) fnReadTalkCard

/-- THE TIED CARD OF 'laws.FnExactTalkText'. -/
def fnExactTalkTextCard : Claim7 := { stood := { row := fnExactTalkTextRow, standIns := [], harness := (true, "5d33113d9f5ebc79a7eab2052d37988338b97cdb1eb8142f1bf91c9e07ad3756"), looks := true }, kinds := [], alts := [], laidByText := true, laidKinds := [.data, .data, .data, .data], laidTests := true, laidLooks := .later }
def FnExactTalkTextCardSaid : Prop := Claim7.holds Tryd.pinned (.plain (OpenSpec.ofChange fnExactTalkTextSpec)) fnExactTalkTextCard

/-- THE TIED CARD OF 'laws.FnExactReadTalk'. -/
def fnExactReadTalkCard : Claim7 := { stood := { row := fnExactReadTalkRow, standIns := [], harness := (true, "5d33113d9f5ebc79a7eab2052d37988338b97cdb1eb8142f1bf91c9e07ad3756"), looks := true }, kinds := [], alts := [], laidByText := true, laidKinds := [.data, .data, .data, .sentinel, .sentinel, .data], laidTests := true, laidLooks := .later }
def FnExactReadTalkCardSaid : Prop := Claim7.holds Tryd.pinned (.plain (OpenSpec.ofChange fnExactReadTalkSpec)) fnExactReadTalkCard

/-- THE TIED CARD OF 'laws.FnExactGroupPrime'. -/
def fnExactGroupPrimeCard : Claim7 := { stood := { row := fnExactGroupPrimeRow, standIns := [], harness := (true, "5d33113d9f5ebc79a7eab2052d37988338b97cdb1eb8142f1bf91c9e07ad3756"), looks := true }, kinds := [], alts := [], laidByText := true, laidKinds := [.data], laidTests := true, laidLooks := .later }
def FnExactGroupPrimeCardSaid : Prop := Claim7.holds Tryd.pinned (.plain (OpenSpec.ofChange fnExactGroupPrimeSpec)) fnExactGroupPrimeCard

/-- THE TIED CARD OF 'laws.FnExactGroupOrder'. -/
def fnExactGroupOrderCard : Claim7 := { stood := { row := fnExactGroupOrderRow, standIns := [], harness := (true, "5d33113d9f5ebc79a7eab2052d37988338b97cdb1eb8142f1bf91c9e07ad3756"), looks := true }, kinds := [], alts := [], laidByText := true, laidKinds := [.data], laidTests := true, laidLooks := .later }
def FnExactGroupOrderCardSaid : Prop := Claim7.holds Tryd.pinned (.plain (OpenSpec.ofChange fnExactGroupOrderSpec)) fnExactGroupOrderCard

/-- THE SECOND FORM's CARD OF 'laws.FnTalkText'. -/
def fnTalkTextUptoCard : Claim7 := { stood := { row := fnTalkTextUptoRow, standIns := [], harness := (true, "5d33113d9f5ebc79a7eab2052d37988338b97cdb1eb8142f1bf91c9e07ad3756"), looks := true }, kinds := [], alts := [], laidByText := true, laidKinds := [.data, .data, .data, .sentinel, .sentinel, .data], laidTests := true, laidLooks := .later }
def FnTalkTextUptoCardSaid : Prop := Claim7.holds Tryd.pinned (.plain (OpenSpec.upto fnTalkTextSpec)) fnTalkTextUptoCard

/-- THE SECOND FORM's CARD OF 'laws.FnReadTalk'. -/
def fnReadTalkUptoCard : Claim7 := { stood := { row := fnReadTalkUptoRow, standIns := [], harness := (true, "5d33113d9f5ebc79a7eab2052d37988338b97cdb1eb8142f1bf91c9e07ad3756"), looks := true }, kinds := [], alts := [], laidByText := true, laidKinds := [.data, .data, .data, .sentinel, .sentinel, .data], laidTests := true, laidLooks := .later }
def FnReadTalkUptoCardSaid : Prop := Claim7.holds Tryd.pinned (.plain (OpenSpec.upto fnReadTalkSpec)) fnReadTalkUptoCard

/-- THE SECOND FORM's CARD OF 'laws.FnExactTalkText'. -/
def fnExactTalkTextUptoCard : Claim7 := { stood := { row := fnExactTalkTextUptoRow, standIns := [], harness := (true, "5d33113d9f5ebc79a7eab2052d37988338b97cdb1eb8142f1bf91c9e07ad3756"), looks := true }, kinds := [], alts := [], laidByText := true, laidKinds := [.data, .data, .data, .data], laidTests := true, laidLooks := .later }
def FnExactTalkTextUptoCardSaid : Prop := Claim7.holds Tryd.pinned (.plain (OpenSpec.upto fnExactTalkTextSpec)) fnExactTalkTextUptoCard

/-- THE SECOND FORM's CARD OF 'laws.FnExactReadTalk'. -/
def fnExactReadTalkUptoCard : Claim7 := { stood := { row := fnExactReadTalkUptoRow, standIns := [], harness := (true, "5d33113d9f5ebc79a7eab2052d37988338b97cdb1eb8142f1bf91c9e07ad3756"), looks := true }, kinds := [], alts := [], laidByText := true, laidKinds := [.data, .data, .data, .sentinel, .sentinel, .data], laidTests := true, laidLooks := .later }
def FnExactReadTalkUptoCardSaid : Prop := Claim7.holds Tryd.pinned (.plain (OpenSpec.upto fnExactReadTalkSpec)) fnExactReadTalkUptoCard

/-- THE SECOND FORM's CARD OF 'laws.FnExactGroupPrime'. -/
def fnExactGroupPrimeUptoCard : Claim7 := { stood := { row := fnExactGroupPrimeUptoRow, standIns := [], harness := (true, "5d33113d9f5ebc79a7eab2052d37988338b97cdb1eb8142f1bf91c9e07ad3756"), looks := true }, kinds := [], alts := [], laidByText := true, laidKinds := [.data], laidTests := true, laidLooks := .later }
def FnExactGroupPrimeUptoCardSaid : Prop := Claim7.holds Tryd.pinned (.plain (OpenSpec.upto fnExactGroupPrimeSpec)) fnExactGroupPrimeUptoCard

/-- THE SECOND FORM's CARD OF 'laws.FnExactGroupOrder'. -/
def fnExactGroupOrderUptoCard : Claim7 := { stood := { row := fnExactGroupOrderUptoRow, standIns := [], harness := (true, "5d33113d9f5ebc79a7eab2052d37988338b97cdb1eb8142f1bf91c9e07ad3756"), looks := true }, kinds := [], alts := [], laidByText := true, laidKinds := [.data], laidTests := true, laidLooks := .later }
def FnExactGroupOrderUptoCardSaid : Prop := Claim7.holds Tryd.pinned (.plain (OpenSpec.upto fnExactGroupOrderSpec)) fnExactGroupOrderUptoCard
end Rows
end Go.Proofs.YtacaeoalplggfacDoor
