/-
  DERIVED. GIVEN WITH THE SEED: THE CARDS: each row of YtaacmckmkcfcgaaGreatDoorRows.lean that lists a variable, with what it lists TIED to the program's text (the seventh form; the later family's looks); each row that meets fmt, with fmt's text TOLD by the authors' own Lean function (tested against real Go, not proved from fmt's source: count such statements apart). THE CARD IS WHAT COUNTS. Prove the row's statement (the work); the ties are given (YtaacmckmkcfcgaaGreatDoorTie.lean); close each card by the builder's one call (the guide's Derived/Test/ToyasCard.lean, 'card_holds'). Laid BY PROGRAM, IN A SANDBOX (cutbox-door.mjs). By AI agents, Wed Nov 11 2026. No macro, syntax, notation, axiom, sorry.
-/
import Derived.Test.YtaacmckmkcfcgaaGreatDoorRows
import GoSem.ClaimSeven
namespace Go.Proofs.YtaacmckmkcfcgaaGreatDoor
namespace Rows

/-- THE TIED CARD OF 'ephemeristlaw06.GiveWhys'. -/
def giveWhysCard : Claim7 := { stood := { row := giveWhysRow, standIns := [], harness := (true, "1fd5cc0f22cbb82fad92c70f4a61247d72e5003c9bc42b19ac3acf3c67a603d9"), looks := true }, kinds := [], alts := [], laidByText := true, laidKinds := [.data, .data, .data, .data, .data, .pinned], laidTests := true, laidLooks := .later }
def GiveWhysCardSaid : Prop := Claim7.holds Tryz.pinned (.plain (OpenSpec.ofChange giveWhysSpec)) giveWhysCard

/-- THE TIED CARD OF 'ephemeristlaw06.GiveParts'. -/
def givePartsCard : Claim7 := { stood := { row := givePartsRow, standIns := [], harness := (true, "1fd5cc0f22cbb82fad92c70f4a61247d72e5003c9bc42b19ac3acf3c67a603d9"), looks := true }, kinds := [], alts := [], laidByText := true, laidKinds := [.data, .data, .data, .data, .data, .pinned], laidTests := true, laidLooks := .later }
def GivePartsCardSaid : Prop := Claim7.holds Tryz.pinned (.plain (OpenSpec.ofChange givePartsSpec)) givePartsCard

/-- THE TIED CARD OF 'ephemeristlaw06.GiveBacks'. -/
def giveBacksCard : Claim7 := { stood := { row := giveBacksRow, standIns := [], harness := (true, "1fd5cc0f22cbb82fad92c70f4a61247d72e5003c9bc42b19ac3acf3c67a603d9"), looks := true }, kinds := [], alts := [], laidByText := true, laidKinds := [.data, .data, .data, .data, .data, .pinned], laidTests := true, laidLooks := .later }
def GiveBacksCardSaid : Prop := Claim7.holds Tryz.pinned (.plain (OpenSpec.ofChange giveBacksSpec)) giveBacksCard

/-- THE TIED CARD OF 'ephemeristlaw06.GiveTables'. -/
def giveTablesCard : Claim7 := { stood := { row := giveTablesRow, standIns := [], harness := (true, "1fd5cc0f22cbb82fad92c70f4a61247d72e5003c9bc42b19ac3acf3c67a603d9"), looks := true }, kinds := [], alts := [], laidByText := true, laidKinds := [.data, .data, .data, .data, .data, .pinned], laidTests := true, laidLooks := .later }
def GiveTablesCardSaid : Prop := Claim7.holds Tryz.pinned (.plain (OpenSpec.ofChange giveTablesSpec)) giveTablesCard

/-- THE TIED CARD OF 'ephemeristlaw06.GiveProved'. -/
def giveProvedCard : Claim7 := { stood := { row := giveProvedRow, standIns := [], harness := (true, "1fd5cc0f22cbb82fad92c70f4a61247d72e5003c9bc42b19ac3acf3c67a603d9"), looks := true }, kinds := [], alts := [], laidByText := true, laidKinds := [.data, .data, .data, .data, .data, .pinned], laidTests := true, laidLooks := .later }
def GiveProvedCardSaid : Prop := Claim7.holds Tryz.pinned (.plain (OpenSpec.ofChange giveProvedSpec)) giveProvedCard

/-- THE TIED CARD OF 'ephemeristlaw06.GiveIdles'. -/
def giveIdlesCard : Claim7 := { stood := { row := giveIdlesRow, standIns := [], harness := (true, "1fd5cc0f22cbb82fad92c70f4a61247d72e5003c9bc42b19ac3acf3c67a603d9"), looks := true }, kinds := [], alts := [], laidByText := true, laidKinds := [.data, .data, .data, .data, .data, .pinned], laidTests := true, laidLooks := .later }
def GiveIdlesCardSaid : Prop := Claim7.holds Tryz.pinned (.plain (OpenSpec.ofChange giveIdlesSpec)) giveIdlesCard

/-- THE SECOND FORM's CARD OF 'ephemeristlaw06.GiveWhys'. -/
def giveWhysUptoCard : Claim7 := { stood := { row := giveWhysUptoRow, standIns := [], harness := (true, "1fd5cc0f22cbb82fad92c70f4a61247d72e5003c9bc42b19ac3acf3c67a603d9"), looks := true }, kinds := [], alts := [], laidByText := true, laidKinds := [.data, .data, .data, .data, .data, .pinned], laidTests := true, laidLooks := .later }
def GiveWhysUptoCardSaid : Prop := Claim7.holds Tryz.pinned (.plain (OpenSpec.upto giveWhysSpec)) giveWhysUptoCard

/-- THE SECOND FORM's CARD OF 'ephemeristlaw06.GiveParts'. -/
def givePartsUptoCard : Claim7 := { stood := { row := givePartsUptoRow, standIns := [], harness := (true, "1fd5cc0f22cbb82fad92c70f4a61247d72e5003c9bc42b19ac3acf3c67a603d9"), looks := true }, kinds := [], alts := [], laidByText := true, laidKinds := [.data, .data, .data, .data, .data, .pinned], laidTests := true, laidLooks := .later }
def GivePartsUptoCardSaid : Prop := Claim7.holds Tryz.pinned (.plain (OpenSpec.upto givePartsSpec)) givePartsUptoCard

/-- THE SECOND FORM's CARD OF 'ephemeristlaw06.GiveBacks'. -/
def giveBacksUptoCard : Claim7 := { stood := { row := giveBacksUptoRow, standIns := [], harness := (true, "1fd5cc0f22cbb82fad92c70f4a61247d72e5003c9bc42b19ac3acf3c67a603d9"), looks := true }, kinds := [], alts := [], laidByText := true, laidKinds := [.data, .data, .data, .data, .data, .pinned], laidTests := true, laidLooks := .later }
def GiveBacksUptoCardSaid : Prop := Claim7.holds Tryz.pinned (.plain (OpenSpec.upto giveBacksSpec)) giveBacksUptoCard

/-- THE SECOND FORM's CARD OF 'ephemeristlaw06.GiveTables'. -/
def giveTablesUptoCard : Claim7 := { stood := { row := giveTablesUptoRow, standIns := [], harness := (true, "1fd5cc0f22cbb82fad92c70f4a61247d72e5003c9bc42b19ac3acf3c67a603d9"), looks := true }, kinds := [], alts := [], laidByText := true, laidKinds := [.data, .data, .data, .data, .data, .pinned], laidTests := true, laidLooks := .later }
def GiveTablesUptoCardSaid : Prop := Claim7.holds Tryz.pinned (.plain (OpenSpec.upto giveTablesSpec)) giveTablesUptoCard

/-- THE SECOND FORM's CARD OF 'ephemeristlaw06.GiveProved'. -/
def giveProvedUptoCard : Claim7 := { stood := { row := giveProvedUptoRow, standIns := [], harness := (true, "1fd5cc0f22cbb82fad92c70f4a61247d72e5003c9bc42b19ac3acf3c67a603d9"), looks := true }, kinds := [], alts := [], laidByText := true, laidKinds := [.data, .data, .data, .data, .data, .pinned], laidTests := true, laidLooks := .later }
def GiveProvedUptoCardSaid : Prop := Claim7.holds Tryz.pinned (.plain (OpenSpec.upto giveProvedSpec)) giveProvedUptoCard

/-- THE SECOND FORM's CARD OF 'ephemeristlaw06.GiveIdles'. -/
def giveIdlesUptoCard : Claim7 := { stood := { row := giveIdlesUptoRow, standIns := [], harness := (true, "1fd5cc0f22cbb82fad92c70f4a61247d72e5003c9bc42b19ac3acf3c67a603d9"), looks := true }, kinds := [], alts := [], laidByText := true, laidKinds := [.data, .data, .data, .data, .data, .pinned], laidTests := true, laidLooks := .later }
def GiveIdlesUptoCardSaid : Prop := Claim7.holds Tryz.pinned (.plain (OpenSpec.upto giveIdlesSpec)) giveIdlesUptoCard
end Rows
end Go.Proofs.YtaacmckmkcfcgaaGreatDoor
