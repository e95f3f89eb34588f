/-
  DERIVED. GIVEN WITH THE SEED: THE CARDS: each row of YtbhocbogedodnaaGreatDoorRows.lean that lists a variable, with what it lists TIED to the program's text (the seventh form; the later family's looks); each row that meets fmt, with fmt's text TOLD by the authors' own Lean function (tested against real Go, not proved from fmt's source: count such statements apart). THE CARD IS WHAT COUNTS. Prove the row's statement (the work); the ties are given (YtbhocbogedodnaaGreatDoorTie.lean); close each card by the builder's one call (the guide's Derived/Test/ToyasCard.lean, 'card_holds'). Laid BY PROGRAM, IN A SANDBOX (cutbox-door.mjs). By AI agents, Wed Nov 11 2026. No macro, syntax, notation, axiom, sorry.
-/
import Derived.Test.YtbhocbogedodnaaGreatDoorRows
import GoSem.ClaimSeven
namespace Go.Proofs.YtbhocbogedodnaaGreatDoor
namespace Rows

/-- THE TIED CARD OF 'ephemeristlaw07.CopiesErrors'. -/
def copiesErrorsCard : Claim7 := { stood := { row := copiesErrorsRow, standIns := [], harness := (true, "1f7b66c201409306724315440e26e40b6ba1c13d01c2099c8d39c360fcefbd6d"), looks := true }, kinds := [], alts := [], laidByText := true, laidKinds := [.data, .data, .data, .data, .data, .pinned], laidTests := true, laidLooks := .later }
def CopiesErrorsCardSaid : Prop := Claim7.holds Tryz.pinned (.plain (OpenSpec.ofChange copiesErrorsSpec)) copiesErrorsCard

/-- THE TIED CARD OF 'ephemeristlaw07.CopiesPaths'. -/
def copiesPathsCard : Claim7 := { stood := { row := copiesPathsRow, standIns := [], harness := (true, "1f7b66c201409306724315440e26e40b6ba1c13d01c2099c8d39c360fcefbd6d"), looks := true }, kinds := [], alts := [], laidByText := true, laidKinds := [.data, .data, .data, .data, .data, .pinned], laidTests := true, laidLooks := .later }
def CopiesPathsCardSaid : Prop := Claim7.holds Tryz.pinned (.plain (OpenSpec.ofChange copiesPathsSpec)) copiesPathsCard

/-- THE TIED CARD OF 'ephemeristlaw07.CopiesKin'. -/
def copiesKinCard : Claim7 := { stood := { row := copiesKinRow, standIns := [], harness := (true, "1f7b66c201409306724315440e26e40b6ba1c13d01c2099c8d39c360fcefbd6d"), looks := true }, kinds := [], alts := [], laidByText := true, laidKinds := [.data, .data, .data, .data, .data, .pinned], laidTests := true, laidLooks := .later }
def CopiesKinCardSaid : Prop := Claim7.holds Tryz.pinned (.plain (OpenSpec.ofChange copiesKinSpec)) copiesKinCard

/-- THE TIED CARD OF 'ephemeristlaw07.CopiesFirsts'. -/
def copiesFirstsCard : Claim7 := { stood := { row := copiesFirstsRow, standIns := [], harness := (true, "1f7b66c201409306724315440e26e40b6ba1c13d01c2099c8d39c360fcefbd6d"), looks := true }, kinds := [], alts := [], laidByText := true, laidKinds := [.data, .data, .data, .data, .data, .pinned], laidTests := true, laidLooks := .later }
def CopiesFirstsCardSaid : Prop := Claim7.holds Tryz.pinned (.plain (OpenSpec.ofChange copiesFirstsSpec)) copiesFirstsCard

/-- THE TIED CARD OF 'ephemeristlaw07.CopiesNexts'. -/
def copiesNextsCard : Claim7 := { stood := { row := copiesNextsRow, standIns := [], harness := (true, "1f7b66c201409306724315440e26e40b6ba1c13d01c2099c8d39c360fcefbd6d"), looks := true }, kinds := [], alts := [], laidByText := true, laidKinds := [.data, .data, .data, .data, .data, .pinned], laidTests := true, laidLooks := .later }
def CopiesNextsCardSaid : Prop := Claim7.holds Tryz.pinned (.plain (OpenSpec.ofChange copiesNextsSpec)) copiesNextsCard

/-- THE TIED CARD OF 'ephemeristlaw07.CopiesSources'. -/
def copiesSourcesCard : Claim7 := { stood := { row := copiesSourcesRow, standIns := [], harness := (true, "1f7b66c201409306724315440e26e40b6ba1c13d01c2099c8d39c360fcefbd6d"), looks := true }, kinds := [], alts := [], laidByText := true, laidKinds := [.data, .data, .data, .data, .data, .pinned], laidTests := true, laidLooks := .later }
def CopiesSourcesCardSaid : Prop := Claim7.holds Tryz.pinned (.plain (OpenSpec.ofChange copiesSourcesSpec)) copiesSourcesCard

/-- THE TIED CARD OF 'ephemeristlaw07.CopiesSourced'. -/
def copiesSourcedCard : Claim7 := { stood := { row := copiesSourcedRow, standIns := [], harness := (true, "1f7b66c201409306724315440e26e40b6ba1c13d01c2099c8d39c360fcefbd6d"), looks := true }, kinds := [], alts := [], laidByText := true, laidKinds := [.data, .data, .data, .data, .data, .pinned], laidTests := true, laidLooks := .later }
def CopiesSourcedCardSaid : Prop := Claim7.holds Tryz.pinned (.plain (OpenSpec.ofChange copiesSourcedSpec)) copiesSourcedCard

/-- THE TIED CARD OF 'ephemeristlaw07.CopiesAparts'. -/
def copiesApartsCard : Claim7 := { stood := { row := copiesApartsRow, standIns := [], harness := (true, "1f7b66c201409306724315440e26e40b6ba1c13d01c2099c8d39c360fcefbd6d"), looks := true }, kinds := [], alts := [], laidByText := true, laidKinds := [.data, .data, .data, .data, .data, .pinned], laidTests := true, laidLooks := .later }
def CopiesApartsCardSaid : Prop := Claim7.holds Tryz.pinned (.plain (OpenSpec.ofChange copiesApartsSpec)) copiesApartsCard

/-- THE TIED CARD OF 'ephemeristlaw07.CopiesAlone'. -/
def copiesAloneCard : Claim7 := { stood := { row := copiesAloneRow, standIns := [], harness := (true, "1f7b66c201409306724315440e26e40b6ba1c13d01c2099c8d39c360fcefbd6d"), looks := true }, kinds := [], alts := [], laidByText := true, laidKinds := [.data, .data, .data, .data, .data, .pinned], laidTests := true, laidLooks := .later }
def CopiesAloneCardSaid : Prop := Claim7.holds Tryz.pinned (.plain (OpenSpec.ofChange copiesAloneSpec)) copiesAloneCard

/-- THE TIED CARD OF 'ephemeristlaw07.CopiesAgains'. -/
def copiesAgainsCard : Claim7 := { stood := { row := copiesAgainsRow, standIns := [], harness := (true, "1f7b66c201409306724315440e26e40b6ba1c13d01c2099c8d39c360fcefbd6d"), looks := true }, kinds := [], alts := [], laidByText := true, laidKinds := [.data, .data, .data, .data, .data, .pinned], laidTests := true, laidLooks := .later }
def CopiesAgainsCardSaid : Prop := Claim7.holds Tryz.pinned (.plain (OpenSpec.ofChange copiesAgainsSpec)) copiesAgainsCard

/-- THE TIED CARD OF 'ephemeristlaw07.CopiesMended'. -/
def copiesMendedCard : Claim7 := { stood := { row := copiesMendedRow, standIns := [], harness := (true, "1f7b66c201409306724315440e26e40b6ba1c13d01c2099c8d39c360fcefbd6d"), looks := true }, kinds := [], alts := [], laidByText := true, laidKinds := [.data, .data, .data, .data, .data, .pinned], laidTests := true, laidLooks := .later }
def CopiesMendedCardSaid : Prop := Claim7.holds Tryz.pinned (.plain (OpenSpec.ofChange copiesMendedSpec)) copiesMendedCard

/-- THE TIED CARD OF 'ephemeristlaw07.CopiesMore'. -/
def copiesMoreCard : Claim7 := { stood := { row := copiesMoreRow, standIns := [], harness := (true, "1f7b66c201409306724315440e26e40b6ba1c13d01c2099c8d39c360fcefbd6d"), looks := true }, kinds := [], alts := [], laidByText := true, laidKinds := [.data, .data, .data, .data, .data, .pinned], laidTests := true, laidLooks := .later }
def CopiesMoreCardSaid : Prop := Claim7.holds Tryz.pinned (.plain (OpenSpec.ofChange copiesMoreSpec)) copiesMoreCard

/-- THE SECOND FORM's CARD OF 'ephemeristlaw07.CopiesErrors'. -/
def copiesErrorsUptoCard : Claim7 := { stood := { row := copiesErrorsUptoRow, standIns := [], harness := (true, "1f7b66c201409306724315440e26e40b6ba1c13d01c2099c8d39c360fcefbd6d"), looks := true }, kinds := [], alts := [], laidByText := true, laidKinds := [.data, .data, .data, .data, .data, .pinned], laidTests := true, laidLooks := .later }
def CopiesErrorsUptoCardSaid : Prop := Claim7.holds Tryz.pinned (.plain (OpenSpec.upto copiesErrorsSpec)) copiesErrorsUptoCard

/-- THE SECOND FORM's CARD OF 'ephemeristlaw07.CopiesPaths'. -/
def copiesPathsUptoCard : Claim7 := { stood := { row := copiesPathsUptoRow, standIns := [], harness := (true, "1f7b66c201409306724315440e26e40b6ba1c13d01c2099c8d39c360fcefbd6d"), looks := true }, kinds := [], alts := [], laidByText := true, laidKinds := [.data, .data, .data, .data, .data, .pinned], laidTests := true, laidLooks := .later }
def CopiesPathsUptoCardSaid : Prop := Claim7.holds Tryz.pinned (.plain (OpenSpec.upto copiesPathsSpec)) copiesPathsUptoCard

/-- THE SECOND FORM's CARD OF 'ephemeristlaw07.CopiesKin'. -/
def copiesKinUptoCard : Claim7 := { stood := { row := copiesKinUptoRow, standIns := [], harness := (true, "1f7b66c201409306724315440e26e40b6ba1c13d01c2099c8d39c360fcefbd6d"), looks := true }, kinds := [], alts := [], laidByText := true, laidKinds := [.data, .data, .data, .data, .data, .pinned], laidTests := true, laidLooks := .later }
def CopiesKinUptoCardSaid : Prop := Claim7.holds Tryz.pinned (.plain (OpenSpec.upto copiesKinSpec)) copiesKinUptoCard

/-- THE SECOND FORM's CARD OF 'ephemeristlaw07.CopiesFirsts'. -/
def copiesFirstsUptoCard : Claim7 := { stood := { row := copiesFirstsUptoRow, standIns := [], harness := (true, "1f7b66c201409306724315440e26e40b6ba1c13d01c2099c8d39c360fcefbd6d"), looks := true }, kinds := [], alts := [], laidByText := true, laidKinds := [.data, .data, .data, .data, .data, .pinned], laidTests := true, laidLooks := .later }
def CopiesFirstsUptoCardSaid : Prop := Claim7.holds Tryz.pinned (.plain (OpenSpec.upto copiesFirstsSpec)) copiesFirstsUptoCard

/-- THE SECOND FORM's CARD OF 'ephemeristlaw07.CopiesNexts'. -/
def copiesNextsUptoCard : Claim7 := { stood := { row := copiesNextsUptoRow, standIns := [], harness := (true, "1f7b66c201409306724315440e26e40b6ba1c13d01c2099c8d39c360fcefbd6d"), looks := true }, kinds := [], alts := [], laidByText := true, laidKinds := [.data, .data, .data, .data, .data, .pinned], laidTests := true, laidLooks := .later }
def CopiesNextsUptoCardSaid : Prop := Claim7.holds Tryz.pinned (.plain (OpenSpec.upto copiesNextsSpec)) copiesNextsUptoCard

/-- THE SECOND FORM's CARD OF 'ephemeristlaw07.CopiesSources'. -/
def copiesSourcesUptoCard : Claim7 := { stood := { row := copiesSourcesUptoRow, standIns := [], harness := (true, "1f7b66c201409306724315440e26e40b6ba1c13d01c2099c8d39c360fcefbd6d"), looks := true }, kinds := [], alts := [], laidByText := true, laidKinds := [.data, .data, .data, .data, .data, .pinned], laidTests := true, laidLooks := .later }
def CopiesSourcesUptoCardSaid : Prop := Claim7.holds Tryz.pinned (.plain (OpenSpec.upto copiesSourcesSpec)) copiesSourcesUptoCard

/-- THE SECOND FORM's CARD OF 'ephemeristlaw07.CopiesSourced'. -/
def copiesSourcedUptoCard : Claim7 := { stood := { row := copiesSourcedUptoRow, standIns := [], harness := (true, "1f7b66c201409306724315440e26e40b6ba1c13d01c2099c8d39c360fcefbd6d"), looks := true }, kinds := [], alts := [], laidByText := true, laidKinds := [.data, .data, .data, .data, .data, .pinned], laidTests := true, laidLooks := .later }
def CopiesSourcedUptoCardSaid : Prop := Claim7.holds Tryz.pinned (.plain (OpenSpec.upto copiesSourcedSpec)) copiesSourcedUptoCard

/-- THE SECOND FORM's CARD OF 'ephemeristlaw07.CopiesAparts'. -/
def copiesApartsUptoCard : Claim7 := { stood := { row := copiesApartsUptoRow, standIns := [], harness := (true, "1f7b66c201409306724315440e26e40b6ba1c13d01c2099c8d39c360fcefbd6d"), looks := true }, kinds := [], alts := [], laidByText := true, laidKinds := [.data, .data, .data, .data, .data, .pinned], laidTests := true, laidLooks := .later }
def CopiesApartsUptoCardSaid : Prop := Claim7.holds Tryz.pinned (.plain (OpenSpec.upto copiesApartsSpec)) copiesApartsUptoCard

/-- THE SECOND FORM's CARD OF 'ephemeristlaw07.CopiesAlone'. -/
def copiesAloneUptoCard : Claim7 := { stood := { row := copiesAloneUptoRow, standIns := [], harness := (true, "1f7b66c201409306724315440e26e40b6ba1c13d01c2099c8d39c360fcefbd6d"), looks := true }, kinds := [], alts := [], laidByText := true, laidKinds := [.data, .data, .data, .data, .data, .pinned], laidTests := true, laidLooks := .later }
def CopiesAloneUptoCardSaid : Prop := Claim7.holds Tryz.pinned (.plain (OpenSpec.upto copiesAloneSpec)) copiesAloneUptoCard

/-- THE SECOND FORM's CARD OF 'ephemeristlaw07.CopiesAgains'. -/
def copiesAgainsUptoCard : Claim7 := { stood := { row := copiesAgainsUptoRow, standIns := [], harness := (true, "1f7b66c201409306724315440e26e40b6ba1c13d01c2099c8d39c360fcefbd6d"), looks := true }, kinds := [], alts := [], laidByText := true, laidKinds := [.data, .data, .data, .data, .data, .pinned], laidTests := true, laidLooks := .later }
def CopiesAgainsUptoCardSaid : Prop := Claim7.holds Tryz.pinned (.plain (OpenSpec.upto copiesAgainsSpec)) copiesAgainsUptoCard

/-- THE SECOND FORM's CARD OF 'ephemeristlaw07.CopiesMended'. -/
def copiesMendedUptoCard : Claim7 := { stood := { row := copiesMendedUptoRow, standIns := [], harness := (true, "1f7b66c201409306724315440e26e40b6ba1c13d01c2099c8d39c360fcefbd6d"), looks := true }, kinds := [], alts := [], laidByText := true, laidKinds := [.data, .data, .data, .data, .data, .pinned], laidTests := true, laidLooks := .later }
def CopiesMendedUptoCardSaid : Prop := Claim7.holds Tryz.pinned (.plain (OpenSpec.upto copiesMendedSpec)) copiesMendedUptoCard

/-- THE SECOND FORM's CARD OF 'ephemeristlaw07.CopiesMore'. -/
def copiesMoreUptoCard : Claim7 := { stood := { row := copiesMoreUptoRow, standIns := [], harness := (true, "1f7b66c201409306724315440e26e40b6ba1c13d01c2099c8d39c360fcefbd6d"), looks := true }, kinds := [], alts := [], laidByText := true, laidKinds := [.data, .data, .data, .data, .data, .pinned], laidTests := true, laidLooks := .later }
def CopiesMoreUptoCardSaid : Prop := Claim7.holds Tryz.pinned (.plain (OpenSpec.upto copiesMoreSpec)) copiesMoreUptoCard
end Rows
end Go.Proofs.YtbhocbogedodnaaGreatDoor
