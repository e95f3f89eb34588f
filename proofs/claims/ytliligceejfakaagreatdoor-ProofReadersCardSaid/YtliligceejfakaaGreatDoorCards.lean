/-
  DERIVED. GIVEN WITH THE SEED: THE CARDS: each row of YtliligceejfakaaGreatDoorRows.lean that lists a variable, with what it lists TIED to the program's text (the seventh form; the later family's looks); each row that meets fmt, with fmt's text TOLD by the authors' own Lean function (tested against real Go, not proved from fmt's source: count such statements apart). THE CARD IS WHAT COUNTS. Prove the row's statement (the work); the ties are given (YtliligceejfakaaGreatDoorTie.lean); close each card by the builder's one call (the guide's Derived/Test/ToyasCard.lean, 'card_holds'). Laid BY PROGRAM, IN A SANDBOX (cutbox-door.mjs). By AI agents, Wed Nov 11 2026. No macro, syntax, notation, axiom, sorry.
-/
import Derived.Test.YtliligceejfakaaGreatDoorRows
import GoSem.ClaimSeven
namespace Go.Proofs.YtliligceejfakaaGreatDoor
namespace Rows

/-- THE TIED CARD OF 'ephemeristlaw09.ProofNows'. -/
def proofNowsCard : Claim7 := { stood := { row := proofNowsRow, standIns := [], harness := (true, "88c8d06f4a46fd0c0caeb8f81d3da10f98ccf7692850987001268d453dea7008"), looks := true }, kinds := [], alts := [], laidByText := true, laidKinds := [.data, .data, .data, .data, .data, .pinned], laidTests := true, laidLooks := .later }
def ProofNowsCardSaid : Prop := Claim7.holds Tryz.pinned (.plain (OpenSpec.ofChange proofNowsSpec)) proofNowsCard

/-- THE TIED CARD OF 'ephemeristlaw09.ProofChanged'. -/
def proofChangedCard : Claim7 := { stood := { row := proofChangedRow, standIns := [], harness := (true, "88c8d06f4a46fd0c0caeb8f81d3da10f98ccf7692850987001268d453dea7008"), looks := true }, kinds := [], alts := [], laidByText := true, laidKinds := [.data, .data, .data, .data, .data, .pinned], laidTests := true, laidLooks := .later }
def ProofChangedCardSaid : Prop := Claim7.holds Tryz.pinned (.plain (OpenSpec.ofChange proofChangedSpec)) proofChangedCard

/-- THE TIED CARD OF 'ephemeristlaw09.ProofReaders'. -/
def proofReadersCard : Claim7 := { stood := { row := proofReadersRow, standIns := [], harness := (true, "88c8d06f4a46fd0c0caeb8f81d3da10f98ccf7692850987001268d453dea7008"), looks := true }, kinds := [], alts := [], laidByText := true, laidKinds := [.data, .data, .data, .data, .data, .pinned], laidTests := true, laidLooks := .later }
def ProofReadersCardSaid : Prop := Claim7.holds Tryz.pinned (.plain (OpenSpec.ofChange proofReadersSpec)) proofReadersCard

/-- THE TIED CARD OF 'ephemeristlaw09.ProofRead'. -/
def proofReadCard : Claim7 := { stood := { row := proofReadRow, standIns := [], harness := (true, "88c8d06f4a46fd0c0caeb8f81d3da10f98ccf7692850987001268d453dea7008"), looks := true }, kinds := [], alts := [], laidByText := true, laidKinds := [.data, .data, .data, .data, .data, .pinned], laidTests := true, laidLooks := .later }
def ProofReadCardSaid : Prop := Claim7.holds Tryz.pinned (.plain (OpenSpec.ofChange proofReadSpec)) proofReadCard

/-- THE TIED CARD OF 'ephemeristlaw09.ProofPasses'. -/
def proofPassesCard : Claim7 := { stood := { row := proofPassesRow, standIns := [], harness := (true, "88c8d06f4a46fd0c0caeb8f81d3da10f98ccf7692850987001268d453dea7008"), looks := true }, kinds := [], alts := [], laidByText := true, laidKinds := [.data, .data, .data, .data, .data, .pinned], laidTests := true, laidLooks := .later }
def ProofPassesCardSaid : Prop := Claim7.holds Tryz.pinned (.plain (OpenSpec.ofChange proofPassesSpec)) proofPassesCard

/-- THE TIED CARD OF 'ephemeristlaw09.ProofTwo'. -/
def proofTwoCard : Claim7 := { stood := { row := proofTwoRow, standIns := [], harness := (true, "88c8d06f4a46fd0c0caeb8f81d3da10f98ccf7692850987001268d453dea7008"), looks := true }, kinds := [], alts := [], laidByText := true, laidKinds := [.data, .data, .data, .data, .data, .pinned], laidTests := true, laidLooks := .later }
def ProofTwoCardSaid : Prop := Claim7.holds Tryz.pinned (.plain (OpenSpec.ofChange proofTwoSpec)) proofTwoCard

/-- THE TIED CARD OF 'ephemeristlaw09.ProofMissed'. -/
def proofMissedCard : Claim7 := { stood := { row := proofMissedRow, standIns := [], harness := (true, "88c8d06f4a46fd0c0caeb8f81d3da10f98ccf7692850987001268d453dea7008"), looks := true }, kinds := [], alts := [], laidByText := true, laidKinds := [.data, .data, .data, .data, .data, .pinned], laidTests := true, laidLooks := .later }
def ProofMissedCardSaid : Prop := Claim7.holds Tryz.pinned (.plain (OpenSpec.ofChange proofMissedSpec)) proofMissedCard

/-- THE TIED CARD OF 'ephemeristlaw09.ProofSeen'. -/
def proofSeenCard : Claim7 := { stood := { row := proofSeenRow, standIns := [], harness := (true, "88c8d06f4a46fd0c0caeb8f81d3da10f98ccf7692850987001268d453dea7008"), looks := true }, kinds := [], alts := [], laidByText := true, laidKinds := [.data, .data, .data, .data, .data, .pinned], laidTests := true, laidLooks := .later }
def ProofSeenCardSaid : Prop := Claim7.holds Tryz.pinned (.plain (OpenSpec.ofChange proofSeenSpec)) proofSeenCard

/-- THE TIED CARD OF 'ephemeristlaw09.ProofUseless'. -/
def proofUselessCard : Claim7 := { stood := { row := proofUselessRow, standIns := [], harness := (true, "88c8d06f4a46fd0c0caeb8f81d3da10f98ccf7692850987001268d453dea7008"), looks := true }, kinds := [], alts := [], laidByText := true, laidKinds := [.data, .data, .data, .data, .data, .pinned], laidTests := true, laidLooks := .later }
def ProofUselessCardSaid : Prop := Claim7.holds Tryz.pinned (.plain (OpenSpec.ofChange proofUselessSpec)) proofUselessCard

/-- THE TIED CARD OF 'ephemeristlaw09.ProofWaste'. -/
def proofWasteCard : Claim7 := { stood := { row := proofWasteRow, standIns := [], harness := (true, "88c8d06f4a46fd0c0caeb8f81d3da10f98ccf7692850987001268d453dea7008"), looks := true }, kinds := [], alts := [], laidByText := true, laidKinds := [.data, .data, .data, .data, .data, .pinned], laidTests := true, laidLooks := .later }
def ProofWasteCardSaid : Prop := Claim7.holds Tryz.pinned (.plain (OpenSpec.ofChange proofWasteSpec)) proofWasteCard

/-- THE TIED CARD OF 'ephemeristlaw09.ProofLess'. -/
def proofLessCard : Claim7 := { stood := { row := proofLessRow, standIns := [], harness := (true, "88c8d06f4a46fd0c0caeb8f81d3da10f98ccf7692850987001268d453dea7008"), looks := true }, kinds := [], alts := [], laidByText := true, laidKinds := [.data, .data, .data, .data, .data, .pinned], laidTests := true, laidLooks := .later }
def ProofLessCardSaid : Prop := Claim7.holds Tryz.pinned (.plain (OpenSpec.ofChange proofLessSpec)) proofLessCard

/-- THE TIED CARD OF 'ephemeristlaw09.ProofFurther'. -/
def proofFurtherCard : Claim7 := { stood := { row := proofFurtherRow, standIns := [], harness := (true, "88c8d06f4a46fd0c0caeb8f81d3da10f98ccf7692850987001268d453dea7008"), looks := true }, kinds := [], alts := [], laidByText := true, laidKinds := [.data, .data, .data, .data, .data, .pinned], laidTests := true, laidLooks := .later }
def ProofFurtherCardSaid : Prop := Claim7.holds Tryz.pinned (.plain (OpenSpec.ofChange proofFurtherSpec)) proofFurtherCard

/-- THE SECOND FORM's CARD OF 'ephemeristlaw09.ProofNows'. -/
def proofNowsUptoCard : Claim7 := { stood := { row := proofNowsUptoRow, standIns := [], harness := (true, "88c8d06f4a46fd0c0caeb8f81d3da10f98ccf7692850987001268d453dea7008"), looks := true }, kinds := [], alts := [], laidByText := true, laidKinds := [.data, .data, .data, .data, .data, .pinned], laidTests := true, laidLooks := .later }
def ProofNowsUptoCardSaid : Prop := Claim7.holds Tryz.pinned (.plain (OpenSpec.upto proofNowsSpec)) proofNowsUptoCard

/-- THE SECOND FORM's CARD OF 'ephemeristlaw09.ProofChanged'. -/
def proofChangedUptoCard : Claim7 := { stood := { row := proofChangedUptoRow, standIns := [], harness := (true, "88c8d06f4a46fd0c0caeb8f81d3da10f98ccf7692850987001268d453dea7008"), looks := true }, kinds := [], alts := [], laidByText := true, laidKinds := [.data, .data, .data, .data, .data, .pinned], laidTests := true, laidLooks := .later }
def ProofChangedUptoCardSaid : Prop := Claim7.holds Tryz.pinned (.plain (OpenSpec.upto proofChangedSpec)) proofChangedUptoCard

/-- THE SECOND FORM's CARD OF 'ephemeristlaw09.ProofReaders'. -/
def proofReadersUptoCard : Claim7 := { stood := { row := proofReadersUptoRow, standIns := [], harness := (true, "88c8d06f4a46fd0c0caeb8f81d3da10f98ccf7692850987001268d453dea7008"), looks := true }, kinds := [], alts := [], laidByText := true, laidKinds := [.data, .data, .data, .data, .data, .pinned], laidTests := true, laidLooks := .later }
def ProofReadersUptoCardSaid : Prop := Claim7.holds Tryz.pinned (.plain (OpenSpec.upto proofReadersSpec)) proofReadersUptoCard

/-- THE SECOND FORM's CARD OF 'ephemeristlaw09.ProofRead'. -/
def proofReadUptoCard : Claim7 := { stood := { row := proofReadUptoRow, standIns := [], harness := (true, "88c8d06f4a46fd0c0caeb8f81d3da10f98ccf7692850987001268d453dea7008"), looks := true }, kinds := [], alts := [], laidByText := true, laidKinds := [.data, .data, .data, .data, .data, .pinned], laidTests := true, laidLooks := .later }
def ProofReadUptoCardSaid : Prop := Claim7.holds Tryz.pinned (.plain (OpenSpec.upto proofReadSpec)) proofReadUptoCard

/-- THE SECOND FORM's CARD OF 'ephemeristlaw09.ProofPasses'. -/
def proofPassesUptoCard : Claim7 := { stood := { row := proofPassesUptoRow, standIns := [], harness := (true, "88c8d06f4a46fd0c0caeb8f81d3da10f98ccf7692850987001268d453dea7008"), looks := true }, kinds := [], alts := [], laidByText := true, laidKinds := [.data, .data, .data, .data, .data, .pinned], laidTests := true, laidLooks := .later }
def ProofPassesUptoCardSaid : Prop := Claim7.holds Tryz.pinned (.plain (OpenSpec.upto proofPassesSpec)) proofPassesUptoCard

/-- THE SECOND FORM's CARD OF 'ephemeristlaw09.ProofTwo'. -/
def proofTwoUptoCard : Claim7 := { stood := { row := proofTwoUptoRow, standIns := [], harness := (true, "88c8d06f4a46fd0c0caeb8f81d3da10f98ccf7692850987001268d453dea7008"), looks := true }, kinds := [], alts := [], laidByText := true, laidKinds := [.data, .data, .data, .data, .data, .pinned], laidTests := true, laidLooks := .later }
def ProofTwoUptoCardSaid : Prop := Claim7.holds Tryz.pinned (.plain (OpenSpec.upto proofTwoSpec)) proofTwoUptoCard

/-- THE SECOND FORM's CARD OF 'ephemeristlaw09.ProofMissed'. -/
def proofMissedUptoCard : Claim7 := { stood := { row := proofMissedUptoRow, standIns := [], harness := (true, "88c8d06f4a46fd0c0caeb8f81d3da10f98ccf7692850987001268d453dea7008"), looks := true }, kinds := [], alts := [], laidByText := true, laidKinds := [.data, .data, .data, .data, .data, .pinned], laidTests := true, laidLooks := .later }
def ProofMissedUptoCardSaid : Prop := Claim7.holds Tryz.pinned (.plain (OpenSpec.upto proofMissedSpec)) proofMissedUptoCard

/-- THE SECOND FORM's CARD OF 'ephemeristlaw09.ProofSeen'. -/
def proofSeenUptoCard : Claim7 := { stood := { row := proofSeenUptoRow, standIns := [], harness := (true, "88c8d06f4a46fd0c0caeb8f81d3da10f98ccf7692850987001268d453dea7008"), looks := true }, kinds := [], alts := [], laidByText := true, laidKinds := [.data, .data, .data, .data, .data, .pinned], laidTests := true, laidLooks := .later }
def ProofSeenUptoCardSaid : Prop := Claim7.holds Tryz.pinned (.plain (OpenSpec.upto proofSeenSpec)) proofSeenUptoCard

/-- THE SECOND FORM's CARD OF 'ephemeristlaw09.ProofUseless'. -/
def proofUselessUptoCard : Claim7 := { stood := { row := proofUselessUptoRow, standIns := [], harness := (true, "88c8d06f4a46fd0c0caeb8f81d3da10f98ccf7692850987001268d453dea7008"), looks := true }, kinds := [], alts := [], laidByText := true, laidKinds := [.data, .data, .data, .data, .data, .pinned], laidTests := true, laidLooks := .later }
def ProofUselessUptoCardSaid : Prop := Claim7.holds Tryz.pinned (.plain (OpenSpec.upto proofUselessSpec)) proofUselessUptoCard

/-- THE SECOND FORM's CARD OF 'ephemeristlaw09.ProofWaste'. -/
def proofWasteUptoCard : Claim7 := { stood := { row := proofWasteUptoRow, standIns := [], harness := (true, "88c8d06f4a46fd0c0caeb8f81d3da10f98ccf7692850987001268d453dea7008"), looks := true }, kinds := [], alts := [], laidByText := true, laidKinds := [.data, .data, .data, .data, .data, .pinned], laidTests := true, laidLooks := .later }
def ProofWasteUptoCardSaid : Prop := Claim7.holds Tryz.pinned (.plain (OpenSpec.upto proofWasteSpec)) proofWasteUptoCard

/-- THE SECOND FORM's CARD OF 'ephemeristlaw09.ProofLess'. -/
def proofLessUptoCard : Claim7 := { stood := { row := proofLessUptoRow, standIns := [], harness := (true, "88c8d06f4a46fd0c0caeb8f81d3da10f98ccf7692850987001268d453dea7008"), looks := true }, kinds := [], alts := [], laidByText := true, laidKinds := [.data, .data, .data, .data, .data, .pinned], laidTests := true, laidLooks := .later }
def ProofLessUptoCardSaid : Prop := Claim7.holds Tryz.pinned (.plain (OpenSpec.upto proofLessSpec)) proofLessUptoCard

/-- THE SECOND FORM's CARD OF 'ephemeristlaw09.ProofFurther'. -/
def proofFurtherUptoCard : Claim7 := { stood := { row := proofFurtherUptoRow, standIns := [], harness := (true, "88c8d06f4a46fd0c0caeb8f81d3da10f98ccf7692850987001268d453dea7008"), looks := true }, kinds := [], alts := [], laidByText := true, laidKinds := [.data, .data, .data, .data, .data, .pinned], laidTests := true, laidLooks := .later }
def ProofFurtherUptoCardSaid : Prop := Claim7.holds Tryz.pinned (.plain (OpenSpec.upto proofFurtherSpec)) proofFurtherUptoCard
end Rows
end Go.Proofs.YtliligceejfakaaGreatDoor
