/-
  DERIVED. GIVEN WITH THE SEED: THE CARDS: each row of YtjdopbcoaocllaaGreatDoorRows.lean that lists a variable, with what it lists TIED to the program's text (the seventh form; the later family's looks); each row that meets fmt, with fmt's text TOLD by the authors' own Lean function (tested against real Go, not proved from fmt's source: count such statements apart). THE CARD IS WHAT COUNTS. Prove the row's statement (the work); the ties are given (YtjdopbcoaocllaaGreatDoorTie.lean); close each card by the builder's one call (the guide's Derived/Test/ToyasCard.lean, 'card_holds'). Laid BY PROGRAM, IN A SANDBOX (cutbox-door.mjs). By AI agents, Wed Nov 11 2026. No macro, syntax, notation, axiom, sorry.
-/
import Derived.Test.YtjdopbcoaocllaaGreatDoorRows
import GoSem.ClaimSeven
namespace Go.Proofs.YtjdopbcoaocllaaGreatDoor
namespace Rows

/-- THE TIED CARD OF 'ephemeristlaw05.StepFigures'. -/
def stepFiguresCard : Claim7 := { stood := { row := stepFiguresRow, standIns := [], harness := (true, "35699c543748cf0c1ea41161b84b392945c95c3bb660fd5a7eb65b7ddc42e63b"), looks := true }, kinds := [], alts := [], laidByText := true, laidKinds := [.data, .data, .data, .data, .data, .pinned], laidTests := true, laidLooks := .later }
def StepFiguresCardSaid : Prop := Claim7.holds Tryz.pinned (.plain (OpenSpec.ofChange stepFiguresSpec)) stepFiguresCard

/-- THE TIED CARD OF 'ephemeristlaw05.StepRounded'. -/
def stepRoundedCard : Claim7 := { stood := { row := stepRoundedRow, standIns := [], harness := (true, "35699c543748cf0c1ea41161b84b392945c95c3bb660fd5a7eb65b7ddc42e63b"), looks := true }, kinds := [], alts := [], laidByText := true, laidKinds := [.data, .data, .data, .data, .data, .pinned], laidTests := true, laidLooks := .later }
def StepRoundedCardSaid : Prop := Claim7.holds Tryz.pinned (.plain (OpenSpec.ofChange stepRoundedSpec)) stepRoundedCard

/-- THE TIED CARD OF 'ephemeristlaw05.StepParts'. -/
def stepPartsCard : Claim7 := { stood := { row := stepPartsRow, standIns := [], harness := (true, "35699c543748cf0c1ea41161b84b392945c95c3bb660fd5a7eb65b7ddc42e63b"), looks := true }, kinds := [], alts := [], laidByText := true, laidKinds := [.data, .data, .data, .data, .data, .pinned], laidTests := true, laidLooks := .later }
def StepPartsCardSaid : Prop := Claim7.holds Tryz.pinned (.plain (OpenSpec.ofChange stepPartsSpec)) stepPartsCard

/-- THE TIED CARD OF 'ephemeristlaw05.StepProportional'. -/
def stepProportionalCard : Claim7 := { stood := { row := stepProportionalRow, standIns := [], harness := (true, "35699c543748cf0c1ea41161b84b392945c95c3bb660fd5a7eb65b7ddc42e63b"), looks := true }, kinds := [], alts := [], laidByText := true, laidKinds := [.data, .data, .data, .data, .data, .pinned], laidTests := true, laidLooks := .later }
def StepProportionalCardSaid : Prop := Claim7.holds Tryz.pinned (.plain (OpenSpec.ofChange stepProportionalSpec)) stepProportionalCard

/-- THE TIED CARD OF 'ephemeristlaw05.StepWords'. -/
def stepWordsCard : Claim7 := { stood := { row := stepWordsRow, standIns := [], harness := (true, "35699c543748cf0c1ea41161b84b392945c95c3bb660fd5a7eb65b7ddc42e63b"), looks := true }, kinds := [], alts := [], laidByText := true, laidKinds := [.data, .data, .data, .data, .data, .pinned], laidTests := true, laidLooks := .later }
def StepWordsCardSaid : Prop := Claim7.holds Tryz.pinned (.plain (OpenSpec.ofChange stepWordsSpec)) stepWordsCard

/-- THE TIED CARD OF 'ephemeristlaw05.StepTrue'. -/
def stepTrueCard : Claim7 := { stood := { row := stepTrueRow, standIns := [], harness := (true, "35699c543748cf0c1ea41161b84b392945c95c3bb660fd5a7eb65b7ddc42e63b"), looks := true }, kinds := [], alts := [], laidByText := true, laidKinds := [.data, .data, .data, .data, .data, .pinned], laidTests := true, laidLooks := .later }
def StepTrueCardSaid : Prop := Claim7.holds Tryz.pinned (.plain (OpenSpec.ofChange stepTrueSpec)) stepTrueCard

/-- THE TIED CARD OF 'ephemeristlaw05.StepProofs'. -/
def stepProofsCard : Claim7 := { stood := { row := stepProofsRow, standIns := [], harness := (true, "35699c543748cf0c1ea41161b84b392945c95c3bb660fd5a7eb65b7ddc42e63b"), looks := true }, kinds := [], alts := [], laidByText := true, laidKinds := [.data, .data, .data, .data, .data, .pinned], laidTests := true, laidLooks := .later }
def StepProofsCardSaid : Prop := Claim7.holds Tryz.pinned (.plain (OpenSpec.ofChange stepProofsSpec)) stepProofsCard

/-- THE TIED CARD OF 'ephemeristlaw05.StepProved'. -/
def stepProvedCard : Claim7 := { stood := { row := stepProvedRow, standIns := [], harness := (true, "35699c543748cf0c1ea41161b84b392945c95c3bb660fd5a7eb65b7ddc42e63b"), looks := true }, kinds := [], alts := [], laidByText := true, laidKinds := [.data, .data, .data, .data, .data, .pinned], laidTests := true, laidLooks := .later }
def StepProvedCardSaid : Prop := Claim7.holds Tryz.pinned (.plain (OpenSpec.ofChange stepProvedSpec)) stepProvedCard

/-- THE TIED CARD OF 'ephemeristlaw05.StepKeeps'. -/
def stepKeepsCard : Claim7 := { stood := { row := stepKeepsRow, standIns := [], harness := (true, "35699c543748cf0c1ea41161b84b392945c95c3bb660fd5a7eb65b7ddc42e63b"), looks := true }, kinds := [], alts := [], laidByText := true, laidKinds := [.data, .data, .data, .data, .data, .pinned], laidTests := true, laidLooks := .later }
def StepKeepsCardSaid : Prop := Claim7.holds Tryz.pinned (.plain (OpenSpec.ofChange stepKeepsSpec)) stepKeepsCard

/-- THE TIED CARD OF 'ephemeristlaw05.StepAdds'. -/
def stepAddsCard : Claim7 := { stood := { row := stepAddsRow, standIns := [], harness := (true, "35699c543748cf0c1ea41161b84b392945c95c3bb660fd5a7eb65b7ddc42e63b"), looks := true }, kinds := [], alts := [], laidByText := true, laidKinds := [.data, .data, .data, .data, .data, .pinned], laidTests := true, laidLooks := .later }
def StepAddsCardSaid : Prop := Claim7.holds Tryz.pinned (.plain (OpenSpec.ofChange stepAddsSpec)) stepAddsCard

/-- THE TIED CARD OF 'ephemeristlaw05.StepAdded'. -/
def stepAddedCard : Claim7 := { stood := { row := stepAddedRow, standIns := [], harness := (true, "35699c543748cf0c1ea41161b84b392945c95c3bb660fd5a7eb65b7ddc42e63b"), looks := true }, kinds := [], alts := [], laidByText := true, laidKinds := [.data, .data, .data, .data, .data, .pinned], laidTests := true, laidLooks := .later }
def StepAddedCardSaid : Prop := Claim7.holds Tryz.pinned (.plain (OpenSpec.ofChange stepAddedSpec)) stepAddedCard

/-- THE TIED CARD OF 'ephemeristlaw05.StepEven'. -/
def stepEvenCard : Claim7 := { stood := { row := stepEvenRow, standIns := [], harness := (true, "35699c543748cf0c1ea41161b84b392945c95c3bb660fd5a7eb65b7ddc42e63b"), looks := true }, kinds := [], alts := [], laidByText := true, laidKinds := [.data, .data, .data, .data, .data, .pinned], laidTests := true, laidLooks := .later }
def StepEvenCardSaid : Prop := Claim7.holds Tryz.pinned (.plain (OpenSpec.ofChange stepEvenSpec)) stepEvenCard

/-- THE SECOND FORM's CARD OF 'ephemeristlaw05.StepFigures'. -/
def stepFiguresUptoCard : Claim7 := { stood := { row := stepFiguresUptoRow, standIns := [], harness := (true, "35699c543748cf0c1ea41161b84b392945c95c3bb660fd5a7eb65b7ddc42e63b"), looks := true }, kinds := [], alts := [], laidByText := true, laidKinds := [.data, .data, .data, .data, .data, .pinned], laidTests := true, laidLooks := .later }
def StepFiguresUptoCardSaid : Prop := Claim7.holds Tryz.pinned (.plain (OpenSpec.upto stepFiguresSpec)) stepFiguresUptoCard

/-- THE SECOND FORM's CARD OF 'ephemeristlaw05.StepRounded'. -/
def stepRoundedUptoCard : Claim7 := { stood := { row := stepRoundedUptoRow, standIns := [], harness := (true, "35699c543748cf0c1ea41161b84b392945c95c3bb660fd5a7eb65b7ddc42e63b"), looks := true }, kinds := [], alts := [], laidByText := true, laidKinds := [.data, .data, .data, .data, .data, .pinned], laidTests := true, laidLooks := .later }
def StepRoundedUptoCardSaid : Prop := Claim7.holds Tryz.pinned (.plain (OpenSpec.upto stepRoundedSpec)) stepRoundedUptoCard

/-- THE SECOND FORM's CARD OF 'ephemeristlaw05.StepParts'. -/
def stepPartsUptoCard : Claim7 := { stood := { row := stepPartsUptoRow, standIns := [], harness := (true, "35699c543748cf0c1ea41161b84b392945c95c3bb660fd5a7eb65b7ddc42e63b"), looks := true }, kinds := [], alts := [], laidByText := true, laidKinds := [.data, .data, .data, .data, .data, .pinned], laidTests := true, laidLooks := .later }
def StepPartsUptoCardSaid : Prop := Claim7.holds Tryz.pinned (.plain (OpenSpec.upto stepPartsSpec)) stepPartsUptoCard

/-- THE SECOND FORM's CARD OF 'ephemeristlaw05.StepProportional'. -/
def stepProportionalUptoCard : Claim7 := { stood := { row := stepProportionalUptoRow, standIns := [], harness := (true, "35699c543748cf0c1ea41161b84b392945c95c3bb660fd5a7eb65b7ddc42e63b"), looks := true }, kinds := [], alts := [], laidByText := true, laidKinds := [.data, .data, .data, .data, .data, .pinned], laidTests := true, laidLooks := .later }
def StepProportionalUptoCardSaid : Prop := Claim7.holds Tryz.pinned (.plain (OpenSpec.upto stepProportionalSpec)) stepProportionalUptoCard

/-- THE SECOND FORM's CARD OF 'ephemeristlaw05.StepWords'. -/
def stepWordsUptoCard : Claim7 := { stood := { row := stepWordsUptoRow, standIns := [], harness := (true, "35699c543748cf0c1ea41161b84b392945c95c3bb660fd5a7eb65b7ddc42e63b"), looks := true }, kinds := [], alts := [], laidByText := true, laidKinds := [.data, .data, .data, .data, .data, .pinned], laidTests := true, laidLooks := .later }
def StepWordsUptoCardSaid : Prop := Claim7.holds Tryz.pinned (.plain (OpenSpec.upto stepWordsSpec)) stepWordsUptoCard

/-- THE SECOND FORM's CARD OF 'ephemeristlaw05.StepTrue'. -/
def stepTrueUptoCard : Claim7 := { stood := { row := stepTrueUptoRow, standIns := [], harness := (true, "35699c543748cf0c1ea41161b84b392945c95c3bb660fd5a7eb65b7ddc42e63b"), looks := true }, kinds := [], alts := [], laidByText := true, laidKinds := [.data, .data, .data, .data, .data, .pinned], laidTests := true, laidLooks := .later }
def StepTrueUptoCardSaid : Prop := Claim7.holds Tryz.pinned (.plain (OpenSpec.upto stepTrueSpec)) stepTrueUptoCard

/-- THE SECOND FORM's CARD OF 'ephemeristlaw05.StepProofs'. -/
def stepProofsUptoCard : Claim7 := { stood := { row := stepProofsUptoRow, standIns := [], harness := (true, "35699c543748cf0c1ea41161b84b392945c95c3bb660fd5a7eb65b7ddc42e63b"), looks := true }, kinds := [], alts := [], laidByText := true, laidKinds := [.data, .data, .data, .data, .data, .pinned], laidTests := true, laidLooks := .later }
def StepProofsUptoCardSaid : Prop := Claim7.holds Tryz.pinned (.plain (OpenSpec.upto stepProofsSpec)) stepProofsUptoCard

/-- THE SECOND FORM's CARD OF 'ephemeristlaw05.StepProved'. -/
def stepProvedUptoCard : Claim7 := { stood := { row := stepProvedUptoRow, standIns := [], harness := (true, "35699c543748cf0c1ea41161b84b392945c95c3bb660fd5a7eb65b7ddc42e63b"), looks := true }, kinds := [], alts := [], laidByText := true, laidKinds := [.data, .data, .data, .data, .data, .pinned], laidTests := true, laidLooks := .later }
def StepProvedUptoCardSaid : Prop := Claim7.holds Tryz.pinned (.plain (OpenSpec.upto stepProvedSpec)) stepProvedUptoCard

/-- THE SECOND FORM's CARD OF 'ephemeristlaw05.StepKeeps'. -/
def stepKeepsUptoCard : Claim7 := { stood := { row := stepKeepsUptoRow, standIns := [], harness := (true, "35699c543748cf0c1ea41161b84b392945c95c3bb660fd5a7eb65b7ddc42e63b"), looks := true }, kinds := [], alts := [], laidByText := true, laidKinds := [.data, .data, .data, .data, .data, .pinned], laidTests := true, laidLooks := .later }
def StepKeepsUptoCardSaid : Prop := Claim7.holds Tryz.pinned (.plain (OpenSpec.upto stepKeepsSpec)) stepKeepsUptoCard

/-- THE SECOND FORM's CARD OF 'ephemeristlaw05.StepAdds'. -/
def stepAddsUptoCard : Claim7 := { stood := { row := stepAddsUptoRow, standIns := [], harness := (true, "35699c543748cf0c1ea41161b84b392945c95c3bb660fd5a7eb65b7ddc42e63b"), looks := true }, kinds := [], alts := [], laidByText := true, laidKinds := [.data, .data, .data, .data, .data, .pinned], laidTests := true, laidLooks := .later }
def StepAddsUptoCardSaid : Prop := Claim7.holds Tryz.pinned (.plain (OpenSpec.upto stepAddsSpec)) stepAddsUptoCard

/-- THE SECOND FORM's CARD OF 'ephemeristlaw05.StepAdded'. -/
def stepAddedUptoCard : Claim7 := { stood := { row := stepAddedUptoRow, standIns := [], harness := (true, "35699c543748cf0c1ea41161b84b392945c95c3bb660fd5a7eb65b7ddc42e63b"), looks := true }, kinds := [], alts := [], laidByText := true, laidKinds := [.data, .data, .data, .data, .data, .pinned], laidTests := true, laidLooks := .later }
def StepAddedUptoCardSaid : Prop := Claim7.holds Tryz.pinned (.plain (OpenSpec.upto stepAddedSpec)) stepAddedUptoCard

/-- THE SECOND FORM's CARD OF 'ephemeristlaw05.StepEven'. -/
def stepEvenUptoCard : Claim7 := { stood := { row := stepEvenUptoRow, standIns := [], harness := (true, "35699c543748cf0c1ea41161b84b392945c95c3bb660fd5a7eb65b7ddc42e63b"), looks := true }, kinds := [], alts := [], laidByText := true, laidKinds := [.data, .data, .data, .data, .data, .pinned], laidTests := true, laidLooks := .later }
def StepEvenUptoCardSaid : Prop := Claim7.holds Tryz.pinned (.plain (OpenSpec.upto stepEvenSpec)) stepEvenUptoCard
end Rows
end Go.Proofs.YtjdopbcoaocllaaGreatDoor
