/-
  DERIVED. GIVEN WITH THE SEED: THE CARDS: each row of YtaojfmpghbpjhaaGreatDoorRows.lean that lists a variable, with what it lists TIED to the program's text (the seventh form; the later family's looks); each row that meets fmt, with fmt's text TOLD by the authors' own Lean function (tested against real Go, not proved from fmt's source: count such statements apart). THE CARD IS WHAT COUNTS. Prove the row's statement (the work); the ties are given (YtaojfmpghbpjhaaGreatDoorTie.lean); close each card by the builder's one call (the guide's Derived/Test/ToyasCard.lean, 'card_holds'). Laid BY PROGRAM, IN A SANDBOX (cutbox-door.mjs). By AI agents, Wed Nov 11 2026. No macro, syntax, notation, axiom, sorry.
-/
import Derived.Test.YtaojfmpghbpjhaaGreatDoorRows
import GoSem.ClaimSeven
namespace Go.Proofs.YtaojfmpghbpjhaaGreatDoor
namespace Rows

/-- THE TIED CARD OF 'ephemeristlaw01.DifferSums'. -/
def differSumsCard : Claim7 := { stood := { row := differSumsRow, standIns := [], harness := (true, "c866c58a7c8e32ce68b78de4bb8f5500c319f1d3626184774634ac2694efcf10"), looks := true }, kinds := [], alts := [], laidByText := true, laidKinds := [.data, .data, .data, .data, .data, .pinned], laidTests := true, laidLooks := .later }
def DifferSumsCardSaid : Prop := Claim7.holds Tryz.pinned (.plain (OpenSpec.ofChange differSumsSpec)) differSumsCard

/-- THE TIED CARD OF 'ephemeristlaw01.DifferCuts'. -/
def differCutsCard : Claim7 := { stood := { row := differCutsRow, standIns := [], harness := (true, "c866c58a7c8e32ce68b78de4bb8f5500c319f1d3626184774634ac2694efcf10"), looks := true }, kinds := [], alts := [], laidByText := true, laidKinds := [.data, .data, .data, .data, .data, .pinned], laidTests := true, laidLooks := .later }
def DifferCutsCardSaid : Prop := Claim7.holds Tryz.pinned (.plain (OpenSpec.ofChange differCutsSpec)) differCutsCard

/-- THE TIED CARD OF 'ephemeristlaw01.DifferSheets'. -/
def differSheetsCard : Claim7 := { stood := { row := differSheetsRow, standIns := [], harness := (true, "c866c58a7c8e32ce68b78de4bb8f5500c319f1d3626184774634ac2694efcf10"), looks := true }, kinds := [], alts := [], laidByText := true, laidKinds := [.data, .data, .data, .data, .data, .pinned], laidTests := true, laidLooks := .later }
def DifferSheetsCardSaid : Prop := Claim7.holds Tryz.pinned (.plain (OpenSpec.ofChange differSheetsSpec)) differSheetsCard

/-- THE TIED CARD OF 'ephemeristlaw01.DifferSures'. -/
def differSuresCard : Claim7 := { stood := { row := differSuresRow, standIns := [], harness := (true, "c866c58a7c8e32ce68b78de4bb8f5500c319f1d3626184774634ac2694efcf10"), looks := true }, kinds := [], alts := [], laidByText := true, laidKinds := [.data, .data, .data, .data, .data, .pinned], laidTests := true, laidLooks := .later }
def DifferSuresCardSaid : Prop := Claim7.holds Tryz.pinned (.plain (OpenSpec.ofChange differSuresSpec)) differSuresCard

/-- THE TIED CARD OF 'ephemeristlaw01.DifferFirm'. -/
def differFirmCard : Claim7 := { stood := { row := differFirmRow, standIns := [], harness := (true, "c866c58a7c8e32ce68b78de4bb8f5500c319f1d3626184774634ac2694efcf10"), looks := true }, kinds := [], alts := [], laidByText := true, laidKinds := [.data, .data, .data, .data, .data, .pinned], laidTests := true, laidLooks := .later }
def DifferFirmCardSaid : Prop := Claim7.holds Tryz.pinned (.plain (OpenSpec.ofChange differFirmSpec)) differFirmCard

/-- THE TIED CARD OF 'ephemeristlaw01.DifferLoose'. -/
def differLooseCard : Claim7 := { stood := { row := differLooseRow, standIns := [], harness := (true, "c866c58a7c8e32ce68b78de4bb8f5500c319f1d3626184774634ac2694efcf10"), looks := true }, kinds := [], alts := [], laidByText := true, laidKinds := [.data, .data, .data, .data, .data, .pinned], laidTests := true, laidLooks := .later }
def DifferLooseCardSaid : Prop := Claim7.holds Tryz.pinned (.plain (OpenSpec.ofChange differLooseSpec)) differLooseCard

/-- THE SECOND FORM's CARD OF 'ephemeristlaw01.DifferSums'. -/
def differSumsUptoCard : Claim7 := { stood := { row := differSumsUptoRow, standIns := [], harness := (true, "c866c58a7c8e32ce68b78de4bb8f5500c319f1d3626184774634ac2694efcf10"), looks := true }, kinds := [], alts := [], laidByText := true, laidKinds := [.data, .data, .data, .data, .data, .pinned], laidTests := true, laidLooks := .later }
def DifferSumsUptoCardSaid : Prop := Claim7.holds Tryz.pinned (.plain (OpenSpec.upto differSumsSpec)) differSumsUptoCard

/-- THE SECOND FORM's CARD OF 'ephemeristlaw01.DifferCuts'. -/
def differCutsUptoCard : Claim7 := { stood := { row := differCutsUptoRow, standIns := [], harness := (true, "c866c58a7c8e32ce68b78de4bb8f5500c319f1d3626184774634ac2694efcf10"), looks := true }, kinds := [], alts := [], laidByText := true, laidKinds := [.data, .data, .data, .data, .data, .pinned], laidTests := true, laidLooks := .later }
def DifferCutsUptoCardSaid : Prop := Claim7.holds Tryz.pinned (.plain (OpenSpec.upto differCutsSpec)) differCutsUptoCard

/-- THE SECOND FORM's CARD OF 'ephemeristlaw01.DifferSheets'. -/
def differSheetsUptoCard : Claim7 := { stood := { row := differSheetsUptoRow, standIns := [], harness := (true, "c866c58a7c8e32ce68b78de4bb8f5500c319f1d3626184774634ac2694efcf10"), looks := true }, kinds := [], alts := [], laidByText := true, laidKinds := [.data, .data, .data, .data, .data, .pinned], laidTests := true, laidLooks := .later }
def DifferSheetsUptoCardSaid : Prop := Claim7.holds Tryz.pinned (.plain (OpenSpec.upto differSheetsSpec)) differSheetsUptoCard

/-- THE SECOND FORM's CARD OF 'ephemeristlaw01.DifferSures'. -/
def differSuresUptoCard : Claim7 := { stood := { row := differSuresUptoRow, standIns := [], harness := (true, "c866c58a7c8e32ce68b78de4bb8f5500c319f1d3626184774634ac2694efcf10"), looks := true }, kinds := [], alts := [], laidByText := true, laidKinds := [.data, .data, .data, .data, .data, .pinned], laidTests := true, laidLooks := .later }
def DifferSuresUptoCardSaid : Prop := Claim7.holds Tryz.pinned (.plain (OpenSpec.upto differSuresSpec)) differSuresUptoCard

/-- THE SECOND FORM's CARD OF 'ephemeristlaw01.DifferFirm'. -/
def differFirmUptoCard : Claim7 := { stood := { row := differFirmUptoRow, standIns := [], harness := (true, "c866c58a7c8e32ce68b78de4bb8f5500c319f1d3626184774634ac2694efcf10"), looks := true }, kinds := [], alts := [], laidByText := true, laidKinds := [.data, .data, .data, .data, .data, .pinned], laidTests := true, laidLooks := .later }
def DifferFirmUptoCardSaid : Prop := Claim7.holds Tryz.pinned (.plain (OpenSpec.upto differFirmSpec)) differFirmUptoCard

/-- THE SECOND FORM's CARD OF 'ephemeristlaw01.DifferLoose'. -/
def differLooseUptoCard : Claim7 := { stood := { row := differLooseUptoRow, standIns := [], harness := (true, "c866c58a7c8e32ce68b78de4bb8f5500c319f1d3626184774634ac2694efcf10"), looks := true }, kinds := [], alts := [], laidByText := true, laidKinds := [.data, .data, .data, .data, .data, .pinned], laidTests := true, laidLooks := .later }
def DifferLooseUptoCardSaid : Prop := Claim7.holds Tryz.pinned (.plain (OpenSpec.upto differLooseSpec)) differLooseUptoCard
end Rows
end Go.Proofs.YtaojfmpghbpjhaaGreatDoor
