/-
  DERIVED. GIVEN WITH THE SEED: THE CARDS: each row of YtippnehdneojlaaGreatDoorRows.lean that lists a variable, with what it lists TIED to the program's text (the seventh form; the later family's looks); each row that meets fmt, with fmt's text TOLD by the authors' own Lean function (tested against real Go, not proved from fmt's source: count such statements apart). THE CARD IS WHAT COUNTS. Prove the row's statement (the work); the ties are given (YtippnehdneojlaaGreatDoorTie.lean); close each card by the builder's one call (the guide's Derived/Test/ToyasCard.lean, 'card_holds'). Laid BY PROGRAM, IN A SANDBOX (cutbox-door.mjs). By AI agents, Wed Nov 11 2026. No macro, syntax, notation, axiom, sorry.
-/
import Derived.Test.YtippnehdneojlaaGreatDoorRows
import GoSem.ClaimSeven
namespace Go.Proofs.YtippnehdneojlaaGreatDoor
namespace Rows

/-- THE TIED CARD OF 'ephemeristlaw01.DifferTables'. -/
def differTablesCard : Claim7 := { stood := { row := differTablesRow, standIns := [], harness := (true, "e84c682c5f8293cf958730a72edc19357deef52f602e6edd15d91bad48e22fdc"), looks := true }, kinds := [], alts := [], laidByText := true, laidKinds := [.data, .data, .data, .data, .data, .pinned], laidTests := true, laidLooks := .later }
def DifferTablesCardSaid : Prop := Claim7.holds Tryz.pinned (.plain (OpenSpec.ofChange differTablesSpec)) differTablesCard

/-- THE TIED CARD OF 'ephemeristlaw01.DifferAdded'. -/
def differAddedCard : Claim7 := { stood := { row := differAddedRow, standIns := [], harness := (true, "e84c682c5f8293cf958730a72edc19357deef52f602e6edd15d91bad48e22fdc"), looks := true }, kinds := [], alts := [], laidByText := true, laidKinds := [.data, .data, .data, .data, .data, .pinned], laidTests := true, laidLooks := .later }
def DifferAddedCardSaid : Prop := Claim7.holds Tryz.pinned (.plain (OpenSpec.ofChange differAddedSpec)) differAddedCard

/-- THE TIED CARD OF 'ephemeristlaw01.DifferRows'. -/
def differRowsCard : Claim7 := { stood := { row := differRowsRow, standIns := [], harness := (true, "e84c682c5f8293cf958730a72edc19357deef52f602e6edd15d91bad48e22fdc"), looks := true }, kinds := [], alts := [], laidByText := true, laidKinds := [.data, .data, .data, .data, .data, .pinned], laidTests := true, laidLooks := .later }
def DifferRowsCardSaid : Prop := Claim7.holds Tryz.pinned (.plain (OpenSpec.ofChange differRowsSpec)) differRowsCard

/-- THE TIED CARD OF 'ephemeristlaw01.DifferBounds'. -/
def differBoundsCard : Claim7 := { stood := { row := differBoundsRow, standIns := [], harness := (true, "e84c682c5f8293cf958730a72edc19357deef52f602e6edd15d91bad48e22fdc"), looks := true }, kinds := [], alts := [], laidByText := true, laidKinds := [.data, .data, .data, .data, .data, .pinned], laidTests := true, laidLooks := .later }
def DifferBoundsCardSaid : Prop := Claim7.holds Tryz.pinned (.plain (OpenSpec.ofChange differBoundsSpec)) differBoundsCard

/-- THE TIED CARD OF 'ephemeristlaw01.DifferClimbs'. -/
def differClimbsCard : Claim7 := { stood := { row := differClimbsRow, standIns := [], harness := (true, "e84c682c5f8293cf958730a72edc19357deef52f602e6edd15d91bad48e22fdc"), looks := true }, kinds := [], alts := [], laidByText := true, laidKinds := [.data, .data, .data, .data, .data, .pinned], laidTests := true, laidLooks := .later }
def DifferClimbsCardSaid : Prop := Claim7.holds Tryz.pinned (.plain (OpenSpec.ofChange differClimbsSpec)) differClimbsCard

/-- THE TIED CARD OF 'ephemeristlaw01.DifferUpward'. -/
def differUpwardCard : Claim7 := { stood := { row := differUpwardRow, standIns := [], harness := (true, "e84c682c5f8293cf958730a72edc19357deef52f602e6edd15d91bad48e22fdc"), looks := true }, kinds := [], alts := [], laidByText := true, laidKinds := [.data, .data, .data, .data, .data, .pinned], laidTests := true, laidLooks := .later }
def DifferUpwardCardSaid : Prop := Claim7.holds Tryz.pinned (.plain (OpenSpec.ofChange differUpwardSpec)) differUpwardCard

/-- THE SECOND FORM's CARD OF 'ephemeristlaw01.DifferTables'. -/
def differTablesUptoCard : Claim7 := { stood := { row := differTablesUptoRow, standIns := [], harness := (true, "e84c682c5f8293cf958730a72edc19357deef52f602e6edd15d91bad48e22fdc"), looks := true }, kinds := [], alts := [], laidByText := true, laidKinds := [.data, .data, .data, .data, .data, .pinned], laidTests := true, laidLooks := .later }
def DifferTablesUptoCardSaid : Prop := Claim7.holds Tryz.pinned (.plain (OpenSpec.upto differTablesSpec)) differTablesUptoCard

/-- THE SECOND FORM's CARD OF 'ephemeristlaw01.DifferAdded'. -/
def differAddedUptoCard : Claim7 := { stood := { row := differAddedUptoRow, standIns := [], harness := (true, "e84c682c5f8293cf958730a72edc19357deef52f602e6edd15d91bad48e22fdc"), looks := true }, kinds := [], alts := [], laidByText := true, laidKinds := [.data, .data, .data, .data, .data, .pinned], laidTests := true, laidLooks := .later }
def DifferAddedUptoCardSaid : Prop := Claim7.holds Tryz.pinned (.plain (OpenSpec.upto differAddedSpec)) differAddedUptoCard

/-- THE SECOND FORM's CARD OF 'ephemeristlaw01.DifferRows'. -/
def differRowsUptoCard : Claim7 := { stood := { row := differRowsUptoRow, standIns := [], harness := (true, "e84c682c5f8293cf958730a72edc19357deef52f602e6edd15d91bad48e22fdc"), looks := true }, kinds := [], alts := [], laidByText := true, laidKinds := [.data, .data, .data, .data, .data, .pinned], laidTests := true, laidLooks := .later }
def DifferRowsUptoCardSaid : Prop := Claim7.holds Tryz.pinned (.plain (OpenSpec.upto differRowsSpec)) differRowsUptoCard

/-- THE SECOND FORM's CARD OF 'ephemeristlaw01.DifferBounds'. -/
def differBoundsUptoCard : Claim7 := { stood := { row := differBoundsUptoRow, standIns := [], harness := (true, "e84c682c5f8293cf958730a72edc19357deef52f602e6edd15d91bad48e22fdc"), looks := true }, kinds := [], alts := [], laidByText := true, laidKinds := [.data, .data, .data, .data, .data, .pinned], laidTests := true, laidLooks := .later }
def DifferBoundsUptoCardSaid : Prop := Claim7.holds Tryz.pinned (.plain (OpenSpec.upto differBoundsSpec)) differBoundsUptoCard

/-- THE SECOND FORM's CARD OF 'ephemeristlaw01.DifferClimbs'. -/
def differClimbsUptoCard : Claim7 := { stood := { row := differClimbsUptoRow, standIns := [], harness := (true, "e84c682c5f8293cf958730a72edc19357deef52f602e6edd15d91bad48e22fdc"), looks := true }, kinds := [], alts := [], laidByText := true, laidKinds := [.data, .data, .data, .data, .data, .pinned], laidTests := true, laidLooks := .later }
def DifferClimbsUptoCardSaid : Prop := Claim7.holds Tryz.pinned (.plain (OpenSpec.upto differClimbsSpec)) differClimbsUptoCard

/-- THE SECOND FORM's CARD OF 'ephemeristlaw01.DifferUpward'. -/
def differUpwardUptoCard : Claim7 := { stood := { row := differUpwardUptoRow, standIns := [], harness := (true, "e84c682c5f8293cf958730a72edc19357deef52f602e6edd15d91bad48e22fdc"), looks := true }, kinds := [], alts := [], laidByText := true, laidKinds := [.data, .data, .data, .data, .data, .pinned], laidTests := true, laidLooks := .later }
def DifferUpwardUptoCardSaid : Prop := Claim7.holds Tryz.pinned (.plain (OpenSpec.upto differUpwardSpec)) differUpwardUptoCard
end Rows
end Go.Proofs.YtippnehdneojlaaGreatDoor
