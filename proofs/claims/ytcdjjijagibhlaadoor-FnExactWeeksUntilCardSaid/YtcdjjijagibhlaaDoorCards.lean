/-
  DERIVED. GIVEN WITH THE SEED: THE CARDS: each row of YtcdjjijagibhlaaDoorRows.lean that lists a variable, with what it lists TIED to the program's text (the seventh form; the later family's looks); each row that meets fmt, with fmt's text TOLD by the authors' own Lean function (tested against real Go, not proved from fmt's source: count such statements apart). THE CARD IS WHAT COUNTS. Prove the row's statement (the work); the ties are given (YtcdjjijagibhlaaDoorTie.lean); close each card by the builder's one call (the guide's Derived/Test/ToyasCard.lean, 'card_holds'). Laid BY PROGRAM, IN A SANDBOX (cutbox-door.mjs). By AI agents, Wed Nov 11 2026. No macro, syntax, notation, axiom, sorry.
-/
import Derived.Test.YtcdjjijagibhlaaDoorRows
import GoSem.ClaimSeven
namespace Go.Proofs.YtcdjjijagibhlaaDoor
namespace Rows

/-- THE TIED CARD OF 'laws.FnExactWeekLater'. -/
def fnExactWeekLaterCard : Claim7 := { stood := { row := fnExactWeekLaterRow, standIns := [], harness := (true, "c816823e3b5c1125cd4518a2acdb4c795dcb9a13a962fa14b3ee22bb68402a30"), looks := true }, kinds := [], alts := [], laidByText := true, laidKinds := [.sentinel, .sentinel, .sentinel, .sentinel, .sentinel, .sentinel], laidTests := true, laidLooks := .later }
def FnExactWeekLaterCardSaid : Prop := Claim7.holds Tryd.pinned (.plain (OpenSpec.ofChange fnExactWeekLaterSpec)) fnExactWeekLaterCard

/-- THE TIED CARD OF 'laws.FnExactWeeksLater'. -/
def fnExactWeeksLaterCard : Claim7 := { stood := { row := fnExactWeeksLaterRow, standIns := [], harness := (true, "c816823e3b5c1125cd4518a2acdb4c795dcb9a13a962fa14b3ee22bb68402a30"), looks := true }, kinds := [], alts := [], laidByText := true, laidKinds := [.sentinel, .sentinel, .sentinel, .sentinel, .sentinel, .sentinel], laidTests := true, laidLooks := .later }
def FnExactWeeksLaterCardSaid : Prop := Claim7.holds Tryd.pinned (.plain (OpenSpec.ofChange fnExactWeeksLaterSpec)) fnExactWeeksLaterCard

/-- THE TIED CARD OF 'laws.FnExactStaysFor'. -/
def fnExactStaysForCard : Claim7 := { stood := { row := fnExactStaysForRow, standIns := [], harness := (true, "c816823e3b5c1125cd4518a2acdb4c795dcb9a13a962fa14b3ee22bb68402a30"), looks := true }, kinds := [], alts := [], laidByText := true, laidKinds := [.sentinel, .sentinel, .sentinel, .sentinel, .sentinel, .sentinel], laidTests := true, laidLooks := .later }
def FnExactStaysForCardSaid : Prop := Claim7.holds Tryd.pinned (.plain (OpenSpec.ofChange fnExactStaysForSpec)) fnExactStaysForCard

/-- THE TIED CARD OF 'laws.FnExactWeeksUntil'. -/
def fnExactWeeksUntilCard : Claim7 := { stood := { row := fnExactWeeksUntilRow, standIns := [], harness := (true, "c816823e3b5c1125cd4518a2acdb4c795dcb9a13a962fa14b3ee22bb68402a30"), looks := true }, kinds := [], alts := [], laidByText := true, laidKinds := [.sentinel, .sentinel, .sentinel, .sentinel, .sentinel, .sentinel], laidTests := true, laidLooks := .later }
def FnExactWeeksUntilCardSaid : Prop := Claim7.holds Tryd.pinned (.plain (OpenSpec.ofChange fnExactWeeksUntilSpec)) fnExactWeeksUntilCard

/-- THE TIED CARD OF 'laws.FnExactMendSpot'. -/
def fnExactMendSpotCard : Claim7 := { stood := { row := fnExactMendSpotRow, standIns := [], harness := (true, "c816823e3b5c1125cd4518a2acdb4c795dcb9a13a962fa14b3ee22bb68402a30"), looks := true }, kinds := [], alts := [], laidByText := true, laidKinds := [.sentinel, .sentinel, .sentinel, .sentinel, .sentinel, .sentinel], laidTests := true, laidLooks := .later }
def FnExactMendSpotCardSaid : Prop := Claim7.holds Tryd.pinned (.plain (OpenSpec.ofChange fnExactMendSpotSpec)) fnExactMendSpotCard

/-- THE TIED CARD OF 'laws.FnExactBestMend'. -/
def fnExactBestMendCard : Claim7 := { stood := { row := fnExactBestMendRow, standIns := [], harness := (true, "c816823e3b5c1125cd4518a2acdb4c795dcb9a13a962fa14b3ee22bb68402a30"), looks := true }, kinds := [], alts := [], laidByText := true, laidKinds := [.sentinel, .sentinel, .sentinel, .sentinel, .sentinel, .sentinel], laidTests := true, laidLooks := .later }
def FnExactBestMendCardSaid : Prop := Claim7.holds Tryd.pinned (.plain (OpenSpec.ofChange fnExactBestMendSpec)) fnExactBestMendCard

/-- THE SECOND FORM's CARD OF 'laws.FnExactWeekLater'. -/
def fnExactWeekLaterUptoCard : Claim7 := { stood := { row := fnExactWeekLaterUptoRow, standIns := [], harness := (true, "c816823e3b5c1125cd4518a2acdb4c795dcb9a13a962fa14b3ee22bb68402a30"), looks := true }, kinds := [], alts := [], laidByText := true, laidKinds := [.sentinel, .sentinel, .sentinel, .sentinel, .sentinel, .sentinel], laidTests := true, laidLooks := .later }
def FnExactWeekLaterUptoCardSaid : Prop := Claim7.holds Tryd.pinned (.plain (OpenSpec.upto fnExactWeekLaterSpec)) fnExactWeekLaterUptoCard

/-- THE SECOND FORM's CARD OF 'laws.FnExactWeeksLater'. -/
def fnExactWeeksLaterUptoCard : Claim7 := { stood := { row := fnExactWeeksLaterUptoRow, standIns := [], harness := (true, "c816823e3b5c1125cd4518a2acdb4c795dcb9a13a962fa14b3ee22bb68402a30"), looks := true }, kinds := [], alts := [], laidByText := true, laidKinds := [.sentinel, .sentinel, .sentinel, .sentinel, .sentinel, .sentinel], laidTests := true, laidLooks := .later }
def FnExactWeeksLaterUptoCardSaid : Prop := Claim7.holds Tryd.pinned (.plain (OpenSpec.upto fnExactWeeksLaterSpec)) fnExactWeeksLaterUptoCard

/-- THE SECOND FORM's CARD OF 'laws.FnExactStaysFor'. -/
def fnExactStaysForUptoCard : Claim7 := { stood := { row := fnExactStaysForUptoRow, standIns := [], harness := (true, "c816823e3b5c1125cd4518a2acdb4c795dcb9a13a962fa14b3ee22bb68402a30"), looks := true }, kinds := [], alts := [], laidByText := true, laidKinds := [.sentinel, .sentinel, .sentinel, .sentinel, .sentinel, .sentinel], laidTests := true, laidLooks := .later }
def FnExactStaysForUptoCardSaid : Prop := Claim7.holds Tryd.pinned (.plain (OpenSpec.upto fnExactStaysForSpec)) fnExactStaysForUptoCard

/-- THE SECOND FORM's CARD OF 'laws.FnExactWeeksUntil'. -/
def fnExactWeeksUntilUptoCard : Claim7 := { stood := { row := fnExactWeeksUntilUptoRow, standIns := [], harness := (true, "c816823e3b5c1125cd4518a2acdb4c795dcb9a13a962fa14b3ee22bb68402a30"), looks := true }, kinds := [], alts := [], laidByText := true, laidKinds := [.sentinel, .sentinel, .sentinel, .sentinel, .sentinel, .sentinel], laidTests := true, laidLooks := .later }
def FnExactWeeksUntilUptoCardSaid : Prop := Claim7.holds Tryd.pinned (.plain (OpenSpec.upto fnExactWeeksUntilSpec)) fnExactWeeksUntilUptoCard

/-- THE SECOND FORM's CARD OF 'laws.FnExactMendSpot'. -/
def fnExactMendSpotUptoCard : Claim7 := { stood := { row := fnExactMendSpotUptoRow, standIns := [], harness := (true, "c816823e3b5c1125cd4518a2acdb4c795dcb9a13a962fa14b3ee22bb68402a30"), looks := true }, kinds := [], alts := [], laidByText := true, laidKinds := [.sentinel, .sentinel, .sentinel, .sentinel, .sentinel, .sentinel], laidTests := true, laidLooks := .later }
def FnExactMendSpotUptoCardSaid : Prop := Claim7.holds Tryd.pinned (.plain (OpenSpec.upto fnExactMendSpotSpec)) fnExactMendSpotUptoCard

/-- THE SECOND FORM's CARD OF 'laws.FnExactBestMend'. -/
def fnExactBestMendUptoCard : Claim7 := { stood := { row := fnExactBestMendUptoRow, standIns := [], harness := (true, "c816823e3b5c1125cd4518a2acdb4c795dcb9a13a962fa14b3ee22bb68402a30"), looks := true }, kinds := [], alts := [], laidByText := true, laidKinds := [.sentinel, .sentinel, .sentinel, .sentinel, .sentinel, .sentinel], laidTests := true, laidLooks := .later }
def FnExactBestMendUptoCardSaid : Prop := Claim7.holds Tryd.pinned (.plain (OpenSpec.upto fnExactBestMendSpec)) fnExactBestMendUptoCard
end Rows
end Go.Proofs.YtcdjjijagibhlaaDoor
