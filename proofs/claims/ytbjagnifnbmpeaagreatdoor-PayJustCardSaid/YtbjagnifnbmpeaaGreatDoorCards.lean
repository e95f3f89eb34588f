/-
  DERIVED. GIVEN WITH THE SEED: THE CARDS: each row of YtbjagnifnbmpeaaGreatDoorRows.lean that lists a variable, with what it lists TIED to the program's text (the seventh form; the later family's looks); each row that meets fmt, with fmt's text TOLD by the authors' own Lean function (tested against real Go, not proved from fmt's source: count such statements apart). THE CARD IS WHAT COUNTS. Prove the row's statement (the work); the ties are given (YtbjagnifnbmpeaaGreatDoorTie.lean); close each card by the builder's one call (the guide's Derived/Test/ToyasCard.lean, 'card_holds'). Laid BY PROGRAM, IN A SANDBOX (cutbox-door.mjs). By AI agents, Wed Nov 11 2026. No macro, syntax, notation, axiom, sorry.
-/
import Derived.Test.YtbjagnifnbmpeaaGreatDoorRows
import GoSem.ClaimSeven
namespace Go.Proofs.YtbjagnifnbmpeaaGreatDoor
namespace Rows

/-- THE TIED CARD OF 'ephemeristlaw08.PayMoneys'. -/
def payMoneysCard : Claim7 := { stood := { row := payMoneysRow, standIns := [], harness := (true, "c035daabc46cd66c7b513f337ef985ed88809c5507afb9d7abc3117d4315d382"), looks := true }, kinds := [], alts := [], laidByText := true, laidKinds := [.data, .data, .data, .data, .data, .data, .data, .pinned], laidTests := true, laidLooks := .later }
def PayMoneysCardSaid : Prop := Claim7.holds Tryz.pinned (.plain (OpenSpec.ofChange payMoneysSpec)) payMoneysCard

/-- THE TIED CARD OF 'ephemeristlaw08.PayCoins'. -/
def payCoinsCard : Claim7 := { stood := { row := payCoinsRow, standIns := [], harness := (true, "c035daabc46cd66c7b513f337ef985ed88809c5507afb9d7abc3117d4315d382"), looks := true }, kinds := [], alts := [], laidByText := true, laidKinds := [.data, .data, .data, .data, .data, .data, .data, .pinned], laidTests := true, laidLooks := .later }
def PayCoinsCardSaid : Prop := Claim7.holds Tryz.pinned (.plain (OpenSpec.ofChange payCoinsSpec)) payCoinsCard

/-- THE TIED CARD OF 'ephemeristlaw08.PayOwes'. -/
def payOwesCard : Claim7 := { stood := { row := payOwesRow, standIns := [], harness := (true, "c035daabc46cd66c7b513f337ef985ed88809c5507afb9d7abc3117d4315d382"), looks := true }, kinds := [], alts := [], laidByText := true, laidKinds := [.data, .data, .data, .data, .data, .data, .data, .pinned], laidTests := true, laidLooks := .later }
def PayOwesCardSaid : Prop := Claim7.holds Tryz.pinned (.plain (OpenSpec.ofChange payOwesSpec)) payOwesCard

/-- THE TIED CARD OF 'ephemeristlaw08.PayPays'. -/
def payPaysCard : Claim7 := { stood := { row := payPaysRow, standIns := [], harness := (true, "c035daabc46cd66c7b513f337ef985ed88809c5507afb9d7abc3117d4315d382"), looks := true }, kinds := [], alts := [], laidByText := true, laidKinds := [.data, .data, .data, .data, .data, .data, .data, .pinned], laidTests := true, laidLooks := .later }
def PayPaysCardSaid : Prop := Claim7.holds Tryz.pinned (.plain (OpenSpec.ofChange payPaysSpec)) payPaysCard

/-- THE TIED CARD OF 'ephemeristlaw08.PayTrue'. -/
def payTrueCard : Claim7 := { stood := { row := payTrueRow, standIns := [], harness := (true, "c035daabc46cd66c7b513f337ef985ed88809c5507afb9d7abc3117d4315d382"), looks := true }, kinds := [], alts := [], laidByText := true, laidKinds := [.data, .data, .data, .data, .data, .data, .data, .pinned], laidTests := true, laidLooks := .later }
def PayTrueCardSaid : Prop := Claim7.holds Tryz.pinned (.plain (OpenSpec.ofChange payTrueSpec)) payTrueCard

/-- THE TIED CARD OF 'ephemeristlaw08.PayBounds'. -/
def payBoundsCard : Claim7 := { stood := { row := payBoundsRow, standIns := [], harness := (true, "c035daabc46cd66c7b513f337ef985ed88809c5507afb9d7abc3117d4315d382"), looks := true }, kinds := [], alts := [], laidByText := true, laidKinds := [.data, .data, .data, .data, .data, .data, .data, .pinned], laidTests := true, laidLooks := .later }
def PayBoundsCardSaid : Prop := Claim7.holds Tryz.pinned (.plain (OpenSpec.ofChange payBoundsSpec)) payBoundsCard

/-- THE TIED CARD OF 'ephemeristlaw08.PayEnds'. -/
def payEndsCard : Claim7 := { stood := { row := payEndsRow, standIns := [], harness := (true, "c035daabc46cd66c7b513f337ef985ed88809c5507afb9d7abc3117d4315d382"), looks := true }, kinds := [], alts := [], laidByText := true, laidKinds := [.data, .data, .data, .data, .data, .data, .data, .pinned], laidTests := true, laidLooks := .later }
def PayEndsCardSaid : Prop := Claim7.holds Tryz.pinned (.plain (OpenSpec.ofChange payEndsSpec)) payEndsCard

/-- THE TIED CARD OF 'ephemeristlaw08.PayShares'. -/
def paySharesCard : Claim7 := { stood := { row := paySharesRow, standIns := [], harness := (true, "c035daabc46cd66c7b513f337ef985ed88809c5507afb9d7abc3117d4315d382"), looks := true }, kinds := [], alts := [], laidByText := true, laidKinds := [.data, .data, .data, .data, .data, .data, .data, .pinned], laidTests := true, laidLooks := .later }
def PaySharesCardSaid : Prop := Claim7.holds Tryz.pinned (.plain (OpenSpec.ofChange paySharesSpec)) paySharesCard

/-- THE TIED CARD OF 'ephemeristlaw08.PayJust'. -/
def payJustCard : Claim7 := { stood := { row := payJustRow, standIns := [], harness := (true, "c035daabc46cd66c7b513f337ef985ed88809c5507afb9d7abc3117d4315d382"), looks := true }, kinds := [], alts := [], laidByText := true, laidKinds := [.data, .data, .data, .data, .data, .data, .data, .pinned], laidTests := true, laidLooks := .later }
def PayJustCardSaid : Prop := Claim7.holds Tryz.pinned (.plain (OpenSpec.ofChange payJustSpec)) payJustCard

/-- THE TIED CARD OF 'ephemeristlaw08.PayRates'. -/
def payRatesCard : Claim7 := { stood := { row := payRatesRow, standIns := [], harness := (true, "c035daabc46cd66c7b513f337ef985ed88809c5507afb9d7abc3117d4315d382"), looks := true }, kinds := [], alts := [], laidByText := true, laidKinds := [.data, .data, .data, .data, .data, .data, .data, .pinned], laidTests := true, laidLooks := .later }
def PayRatesCardSaid : Prop := Claim7.holds Tryz.pinned (.plain (OpenSpec.ofChange payRatesSpec)) payRatesCard

/-- THE TIED CARD OF 'ephemeristlaw08.PayEnough'. -/
def payEnoughCard : Claim7 := { stood := { row := payEnoughRow, standIns := [], harness := (true, "c035daabc46cd66c7b513f337ef985ed88809c5507afb9d7abc3117d4315d382"), looks := true }, kinds := [], alts := [], laidByText := true, laidKinds := [.data, .data, .data, .data, .data, .data, .data, .pinned], laidTests := true, laidLooks := .later }
def PayEnoughCardSaid : Prop := Claim7.holds Tryz.pinned (.plain (OpenSpec.ofChange payEnoughSpec)) payEnoughCard

/-- THE TIED CARD OF 'ephemeristlaw08.PayMore'. -/
def payMoreCard : Claim7 := { stood := { row := payMoreRow, standIns := [], harness := (true, "c035daabc46cd66c7b513f337ef985ed88809c5507afb9d7abc3117d4315d382"), looks := true }, kinds := [], alts := [], laidByText := true, laidKinds := [.data, .data, .data, .data, .data, .data, .data, .pinned], laidTests := true, laidLooks := .later }
def PayMoreCardSaid : Prop := Claim7.holds Tryz.pinned (.plain (OpenSpec.ofChange payMoreSpec)) payMoreCard

/-- THE SECOND FORM's CARD OF 'ephemeristlaw08.PayMoneys'. -/
def payMoneysUptoCard : Claim7 := { stood := { row := payMoneysUptoRow, standIns := [], harness := (true, "c035daabc46cd66c7b513f337ef985ed88809c5507afb9d7abc3117d4315d382"), looks := true }, kinds := [], alts := [], laidByText := true, laidKinds := [.data, .data, .data, .data, .data, .data, .data, .pinned], laidTests := true, laidLooks := .later }
def PayMoneysUptoCardSaid : Prop := Claim7.holds Tryz.pinned (.plain (OpenSpec.upto payMoneysSpec)) payMoneysUptoCard

/-- THE SECOND FORM's CARD OF 'ephemeristlaw08.PayCoins'. -/
def payCoinsUptoCard : Claim7 := { stood := { row := payCoinsUptoRow, standIns := [], harness := (true, "c035daabc46cd66c7b513f337ef985ed88809c5507afb9d7abc3117d4315d382"), looks := true }, kinds := [], alts := [], laidByText := true, laidKinds := [.data, .data, .data, .data, .data, .data, .data, .pinned], laidTests := true, laidLooks := .later }
def PayCoinsUptoCardSaid : Prop := Claim7.holds Tryz.pinned (.plain (OpenSpec.upto payCoinsSpec)) payCoinsUptoCard

/-- THE SECOND FORM's CARD OF 'ephemeristlaw08.PayOwes'. -/
def payOwesUptoCard : Claim7 := { stood := { row := payOwesUptoRow, standIns := [], harness := (true, "c035daabc46cd66c7b513f337ef985ed88809c5507afb9d7abc3117d4315d382"), looks := true }, kinds := [], alts := [], laidByText := true, laidKinds := [.data, .data, .data, .data, .data, .data, .data, .pinned], laidTests := true, laidLooks := .later }
def PayOwesUptoCardSaid : Prop := Claim7.holds Tryz.pinned (.plain (OpenSpec.upto payOwesSpec)) payOwesUptoCard

/-- THE SECOND FORM's CARD OF 'ephemeristlaw08.PayPays'. -/
def payPaysUptoCard : Claim7 := { stood := { row := payPaysUptoRow, standIns := [], harness := (true, "c035daabc46cd66c7b513f337ef985ed88809c5507afb9d7abc3117d4315d382"), looks := true }, kinds := [], alts := [], laidByText := true, laidKinds := [.data, .data, .data, .data, .data, .data, .data, .pinned], laidTests := true, laidLooks := .later }
def PayPaysUptoCardSaid : Prop := Claim7.holds Tryz.pinned (.plain (OpenSpec.upto payPaysSpec)) payPaysUptoCard

/-- THE SECOND FORM's CARD OF 'ephemeristlaw08.PayTrue'. -/
def payTrueUptoCard : Claim7 := { stood := { row := payTrueUptoRow, standIns := [], harness := (true, "c035daabc46cd66c7b513f337ef985ed88809c5507afb9d7abc3117d4315d382"), looks := true }, kinds := [], alts := [], laidByText := true, laidKinds := [.data, .data, .data, .data, .data, .data, .data, .pinned], laidTests := true, laidLooks := .later }
def PayTrueUptoCardSaid : Prop := Claim7.holds Tryz.pinned (.plain (OpenSpec.upto payTrueSpec)) payTrueUptoCard

/-- THE SECOND FORM's CARD OF 'ephemeristlaw08.PayBounds'. -/
def payBoundsUptoCard : Claim7 := { stood := { row := payBoundsUptoRow, standIns := [], harness := (true, "c035daabc46cd66c7b513f337ef985ed88809c5507afb9d7abc3117d4315d382"), looks := true }, kinds := [], alts := [], laidByText := true, laidKinds := [.data, .data, .data, .data, .data, .data, .data, .pinned], laidTests := true, laidLooks := .later }
def PayBoundsUptoCardSaid : Prop := Claim7.holds Tryz.pinned (.plain (OpenSpec.upto payBoundsSpec)) payBoundsUptoCard

/-- THE SECOND FORM's CARD OF 'ephemeristlaw08.PayEnds'. -/
def payEndsUptoCard : Claim7 := { stood := { row := payEndsUptoRow, standIns := [], harness := (true, "c035daabc46cd66c7b513f337ef985ed88809c5507afb9d7abc3117d4315d382"), looks := true }, kinds := [], alts := [], laidByText := true, laidKinds := [.data, .data, .data, .data, .data, .data, .data, .pinned], laidTests := true, laidLooks := .later }
def PayEndsUptoCardSaid : Prop := Claim7.holds Tryz.pinned (.plain (OpenSpec.upto payEndsSpec)) payEndsUptoCard

/-- THE SECOND FORM's CARD OF 'ephemeristlaw08.PayShares'. -/
def paySharesUptoCard : Claim7 := { stood := { row := paySharesUptoRow, standIns := [], harness := (true, "c035daabc46cd66c7b513f337ef985ed88809c5507afb9d7abc3117d4315d382"), looks := true }, kinds := [], alts := [], laidByText := true, laidKinds := [.data, .data, .data, .data, .data, .data, .data, .pinned], laidTests := true, laidLooks := .later }
def PaySharesUptoCardSaid : Prop := Claim7.holds Tryz.pinned (.plain (OpenSpec.upto paySharesSpec)) paySharesUptoCard

/-- THE SECOND FORM's CARD OF 'ephemeristlaw08.PayJust'. -/
def payJustUptoCard : Claim7 := { stood := { row := payJustUptoRow, standIns := [], harness := (true, "c035daabc46cd66c7b513f337ef985ed88809c5507afb9d7abc3117d4315d382"), looks := true }, kinds := [], alts := [], laidByText := true, laidKinds := [.data, .data, .data, .data, .data, .data, .data, .pinned], laidTests := true, laidLooks := .later }
def PayJustUptoCardSaid : Prop := Claim7.holds Tryz.pinned (.plain (OpenSpec.upto payJustSpec)) payJustUptoCard

/-- THE SECOND FORM's CARD OF 'ephemeristlaw08.PayRates'. -/
def payRatesUptoCard : Claim7 := { stood := { row := payRatesUptoRow, standIns := [], harness := (true, "c035daabc46cd66c7b513f337ef985ed88809c5507afb9d7abc3117d4315d382"), looks := true }, kinds := [], alts := [], laidByText := true, laidKinds := [.data, .data, .data, .data, .data, .data, .data, .pinned], laidTests := true, laidLooks := .later }
def PayRatesUptoCardSaid : Prop := Claim7.holds Tryz.pinned (.plain (OpenSpec.upto payRatesSpec)) payRatesUptoCard

/-- THE SECOND FORM's CARD OF 'ephemeristlaw08.PayEnough'. -/
def payEnoughUptoCard : Claim7 := { stood := { row := payEnoughUptoRow, standIns := [], harness := (true, "c035daabc46cd66c7b513f337ef985ed88809c5507afb9d7abc3117d4315d382"), looks := true }, kinds := [], alts := [], laidByText := true, laidKinds := [.data, .data, .data, .data, .data, .data, .data, .pinned], laidTests := true, laidLooks := .later }
def PayEnoughUptoCardSaid : Prop := Claim7.holds Tryz.pinned (.plain (OpenSpec.upto payEnoughSpec)) payEnoughUptoCard

/-- THE SECOND FORM's CARD OF 'ephemeristlaw08.PayMore'. -/
def payMoreUptoCard : Claim7 := { stood := { row := payMoreUptoRow, standIns := [], harness := (true, "c035daabc46cd66c7b513f337ef985ed88809c5507afb9d7abc3117d4315d382"), looks := true }, kinds := [], alts := [], laidByText := true, laidKinds := [.data, .data, .data, .data, .data, .data, .data, .pinned], laidTests := true, laidLooks := .later }
def PayMoreUptoCardSaid : Prop := Claim7.holds Tryz.pinned (.plain (OpenSpec.upto payMoreSpec)) payMoreUptoCard
end Rows
end Go.Proofs.YtbjagnifnbmpeaaGreatDoor
