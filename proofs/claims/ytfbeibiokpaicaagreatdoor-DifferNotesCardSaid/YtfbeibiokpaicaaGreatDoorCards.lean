/-
  DERIVED. GIVEN WITH THE SEED: THE CARDS: each row of YtfbeibiokpaicaaGreatDoorRows.lean that lists a variable, with what it lists TIED to the program's text (the seventh form; the later family's looks); each row that meets fmt, with fmt's text TOLD by the authors' own Lean function (tested against real Go, not proved from fmt's source: count such statements apart). THE CARD IS WHAT COUNTS. Prove the row's statement (the work); the ties are given (YtfbeibiokpaicaaGreatDoorTie.lean); close each card by the builder's one call (the guide's Derived/Test/ToyasCard.lean, 'card_holds'). Laid BY PROGRAM, IN A SANDBOX (cutbox-door.mjs). By AI agents, Wed Nov 11 2026. No macro, syntax, notation, axiom, sorry.
-/
import Derived.Test.YtfbeibiokpaicaaGreatDoorRows
import GoSem.ClaimSeven
namespace Go.Proofs.YtfbeibiokpaicaaGreatDoor
namespace Rows

/-- THE TIED CARD OF 'ephemeristlaw01.DifferWidests'. -/
def differWidestsCard : Claim7 := { stood := { row := differWidestsRow, standIns := [], harness := (true, "665d7e703534133e0897939447d3aa1d3e2fed9d575ff95791315b447874cdc3"), looks := true }, kinds := [], alts := [], laidByText := true, laidKinds := [.data, .data, .data, .data, .data, .pinned], laidTests := true, laidLooks := .later }
def DifferWidestsCardSaid : Prop := Claim7.holds Tryz.pinned (.plain (OpenSpec.ofChange differWidestsSpec)) differWidestsCard

/-- THE TIED CARD OF 'ephemeristlaw01.DifferAgrees'. -/
def differAgreesCard : Claim7 := { stood := { row := differAgreesRow, standIns := [], harness := (true, "665d7e703534133e0897939447d3aa1d3e2fed9d575ff95791315b447874cdc3"), looks := true }, kinds := [], alts := [], laidByText := true, laidKinds := [.data, .data, .data, .data, .data, .pinned], laidTests := true, laidLooks := .later }
def DifferAgreesCardSaid : Prop := Claim7.holds Tryz.pinned (.plain (OpenSpec.ofChange differAgreesSpec)) differAgreesCard

/-- THE TIED CARD OF 'ephemeristlaw01.DifferNotes'. -/
def differNotesCard : Claim7 := { stood := { row := differNotesRow, standIns := [], harness := (true, "665d7e703534133e0897939447d3aa1d3e2fed9d575ff95791315b447874cdc3"), looks := true }, kinds := [], alts := [], laidByText := true, laidKinds := [.data, .data, .data, .data, .data, .pinned], laidTests := true, laidLooks := .later }
def DifferNotesCardSaid : Prop := Claim7.holds Tryz.pinned (.plain (OpenSpec.ofChange differNotesSpec)) differNotesCard

/-- THE TIED CARD OF 'ephemeristlaw01.DifferNexts'. -/
def differNextsCard : Claim7 := { stood := { row := differNextsRow, standIns := [], harness := (true, "665d7e703534133e0897939447d3aa1d3e2fed9d575ff95791315b447874cdc3"), looks := true }, kinds := [], alts := [], laidByText := true, laidKinds := [.data, .data, .data, .data, .data, .pinned], laidTests := true, laidLooks := .later }
def DifferNextsCardSaid : Prop := Claim7.holds Tryz.pinned (.plain (OpenSpec.ofChange differNextsSpec)) differNextsCard

/-- THE TIED CARD OF 'ephemeristlaw01.DifferAsked'. -/
def differAskedCard : Claim7 := { stood := { row := differAskedRow, standIns := [], harness := (true, "665d7e703534133e0897939447d3aa1d3e2fed9d575ff95791315b447874cdc3"), looks := true }, kinds := [], alts := [], laidByText := true, laidKinds := [.data, .data, .data, .data, .data, .pinned], laidTests := true, laidLooks := .later }
def DifferAskedCardSaid : Prop := Claim7.holds Tryz.pinned (.plain (OpenSpec.ofChange differAskedSpec)) differAskedCard

/-- THE TIED CARD OF 'ephemeristlaw01.DifferPrints'. -/
def differPrintsCard : Claim7 := { stood := { row := differPrintsRow, standIns := [], harness := (true, "665d7e703534133e0897939447d3aa1d3e2fed9d575ff95791315b447874cdc3"), looks := true }, kinds := [], alts := [], laidByText := true, laidKinds := [.data, .data, .data, .data, .data, .pinned], laidTests := true, laidLooks := .later }
def DifferPrintsCardSaid : Prop := Claim7.holds Tryz.pinned (.plain (OpenSpec.ofChange differPrintsSpec)) differPrintsCard

/-- THE SECOND FORM's CARD OF 'ephemeristlaw01.DifferWidests'. -/
def differWidestsUptoCard : Claim7 := { stood := { row := differWidestsUptoRow, standIns := [], harness := (true, "665d7e703534133e0897939447d3aa1d3e2fed9d575ff95791315b447874cdc3"), looks := true }, kinds := [], alts := [], laidByText := true, laidKinds := [.data, .data, .data, .data, .data, .pinned], laidTests := true, laidLooks := .later }
def DifferWidestsUptoCardSaid : Prop := Claim7.holds Tryz.pinned (.plain (OpenSpec.upto differWidestsSpec)) differWidestsUptoCard

/-- THE SECOND FORM's CARD OF 'ephemeristlaw01.DifferAgrees'. -/
def differAgreesUptoCard : Claim7 := { stood := { row := differAgreesUptoRow, standIns := [], harness := (true, "665d7e703534133e0897939447d3aa1d3e2fed9d575ff95791315b447874cdc3"), looks := true }, kinds := [], alts := [], laidByText := true, laidKinds := [.data, .data, .data, .data, .data, .pinned], laidTests := true, laidLooks := .later }
def DifferAgreesUptoCardSaid : Prop := Claim7.holds Tryz.pinned (.plain (OpenSpec.upto differAgreesSpec)) differAgreesUptoCard

/-- THE SECOND FORM's CARD OF 'ephemeristlaw01.DifferNotes'. -/
def differNotesUptoCard : Claim7 := { stood := { row := differNotesUptoRow, standIns := [], harness := (true, "665d7e703534133e0897939447d3aa1d3e2fed9d575ff95791315b447874cdc3"), looks := true }, kinds := [], alts := [], laidByText := true, laidKinds := [.data, .data, .data, .data, .data, .pinned], laidTests := true, laidLooks := .later }
def DifferNotesUptoCardSaid : Prop := Claim7.holds Tryz.pinned (.plain (OpenSpec.upto differNotesSpec)) differNotesUptoCard

/-- THE SECOND FORM's CARD OF 'ephemeristlaw01.DifferNexts'. -/
def differNextsUptoCard : Claim7 := { stood := { row := differNextsUptoRow, standIns := [], harness := (true, "665d7e703534133e0897939447d3aa1d3e2fed9d575ff95791315b447874cdc3"), looks := true }, kinds := [], alts := [], laidByText := true, laidKinds := [.data, .data, .data, .data, .data, .pinned], laidTests := true, laidLooks := .later }
def DifferNextsUptoCardSaid : Prop := Claim7.holds Tryz.pinned (.plain (OpenSpec.upto differNextsSpec)) differNextsUptoCard

/-- THE SECOND FORM's CARD OF 'ephemeristlaw01.DifferAsked'. -/
def differAskedUptoCard : Claim7 := { stood := { row := differAskedUptoRow, standIns := [], harness := (true, "665d7e703534133e0897939447d3aa1d3e2fed9d575ff95791315b447874cdc3"), looks := true }, kinds := [], alts := [], laidByText := true, laidKinds := [.data, .data, .data, .data, .data, .pinned], laidTests := true, laidLooks := .later }
def DifferAskedUptoCardSaid : Prop := Claim7.holds Tryz.pinned (.plain (OpenSpec.upto differAskedSpec)) differAskedUptoCard

/-- THE SECOND FORM's CARD OF 'ephemeristlaw01.DifferPrints'. -/
def differPrintsUptoCard : Claim7 := { stood := { row := differPrintsUptoRow, standIns := [], harness := (true, "665d7e703534133e0897939447d3aa1d3e2fed9d575ff95791315b447874cdc3"), looks := true }, kinds := [], alts := [], laidByText := true, laidKinds := [.data, .data, .data, .data, .data, .pinned], laidTests := true, laidLooks := .later }
def DifferPrintsUptoCardSaid : Prop := Claim7.holds Tryz.pinned (.plain (OpenSpec.upto differPrintsSpec)) differPrintsUptoCard
end Rows
end Go.Proofs.YtfbeibiokpaicaaGreatDoor
