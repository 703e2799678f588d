/-
  DERIVED. GIVEN WITH THE SEED: THE CARDS: each row of YtibkocbfcdddfaaDoorRows.lean that lists a variable, with what it lists TIED to the program's text (the seventh form; the later family's looks); each row that meets fmt, with fmt's text TOLD by the authors' own Lean function (tested against real Go, not proved from fmt's source: count such statements apart). THE CARD IS WHAT COUNTS. Prove the row's statement (the work); the ties are given (YtibkocbfcdddfaaDoorTie.lean); close each card by the builder's one call (the guide's Derived/Test/ToyasCard.lean, 'card_holds'). Laid BY PROGRAM, IN A SANDBOX (cutbox-door.mjs). By AI agents, Wed Nov 11 2026. No macro, syntax, notation, axiom, sorry.
-/
import Derived.Test.YtibkocbfcdddfaaDoorRows
import GoSem.ClaimSeven
namespace Go.Proofs.YtibkocbfcdddfaaDoor
namespace Rows

/-- THE TIED CARD OF 'laws.FnExactTurnsFor'. -/
def fnExactTurnsForCard : Claim7 := { stood := { row := fnExactTurnsForRow, standIns := [], harness := (true, "980720a773f48fac2a4ead06106de1eed64ad2196c82b46bd837bfd2bfc7f674"), looks := true }, kinds := [], alts := [], laidByText := true, laidKinds := [.sentinel, .sentinel, .sentinel, .sentinel, .sentinel, .sentinel], laidTests := true, laidLooks := .later }
def FnExactTurnsForCardSaid : Prop := Claim7.holds Tryd.pinned (.plain (OpenSpec.ofChange fnExactTurnsForSpec)) fnExactTurnsForCard

/-- THE TIED CARD OF 'laws.FnExactTiesFor'. -/
def fnExactTiesForCard : Claim7 := { stood := { row := fnExactTiesForRow, standIns := [], harness := (true, "980720a773f48fac2a4ead06106de1eed64ad2196c82b46bd837bfd2bfc7f674"), looks := true }, kinds := [], alts := [], laidByText := true, laidKinds := [.sentinel, .sentinel, .sentinel, .sentinel, .sentinel, .sentinel], laidTests := true, laidLooks := .later }
def FnExactTiesForCardSaid : Prop := Claim7.holds Tryd.pinned (.plain (OpenSpec.ofChange fnExactTiesForSpec)) fnExactTiesForCard

/-- THE TIED CARD OF 'laws.FnExactBallTurns'. -/
def fnExactBallTurnsCard : Claim7 := { stood := { row := fnExactBallTurnsRow, standIns := [], harness := (true, "980720a773f48fac2a4ead06106de1eed64ad2196c82b46bd837bfd2bfc7f674"), looks := true }, kinds := [], alts := [], laidByText := true, laidKinds := [.sentinel, .sentinel, .sentinel, .sentinel, .sentinel, .sentinel], laidTests := true, laidLooks := .later }
def FnExactBallTurnsCardSaid : Prop := Claim7.holds Tryd.pinned (.plain (OpenSpec.ofChange fnExactBallTurnsSpec)) fnExactBallTurnsCard

/-- THE TIED CARD OF 'laws.FnExactBallLength'. -/
def fnExactBallLengthCard : Claim7 := { stood := { row := fnExactBallLengthRow, standIns := [], harness := (true, "980720a773f48fac2a4ead06106de1eed64ad2196c82b46bd837bfd2bfc7f674"), looks := true }, kinds := [], alts := [], laidByText := true, laidKinds := [.sentinel, .sentinel, .sentinel, .sentinel, .sentinel, .sentinel], laidTests := true, laidLooks := .later }
def FnExactBallLengthCardSaid : Prop := Claim7.holds Tryd.pinned (.plain (OpenSpec.ofChange fnExactBallLengthSpec)) fnExactBallLengthCard

/-- THE TIED CARD OF 'laws.FnExactOnReel'. -/
def fnExactOnReelCard : Claim7 := { stood := { row := fnExactOnReelRow, standIns := [], harness := (true, "980720a773f48fac2a4ead06106de1eed64ad2196c82b46bd837bfd2bfc7f674"), looks := true }, kinds := [], alts := [], laidByText := true, laidKinds := [.sentinel, .sentinel, .sentinel, .sentinel, .sentinel, .sentinel], laidTests := true, laidLooks := .later }
def FnExactOnReelCardSaid : Prop := Claim7.holds Tryd.pinned (.plain (OpenSpec.ofChange fnExactOnReelSpec)) fnExactOnReelCard

/-- THE TIED CARD OF 'laws.FnExactFirstReels'. -/
def fnExactFirstReelsCard : Claim7 := { stood := { row := fnExactFirstReelsRow, standIns := [], harness := (true, "980720a773f48fac2a4ead06106de1eed64ad2196c82b46bd837bfd2bfc7f674"), looks := true }, kinds := [], alts := [], laidByText := true, laidKinds := [.sentinel, .sentinel, .sentinel, .sentinel, .sentinel, .sentinel], laidTests := true, laidLooks := .later }
def FnExactFirstReelsCardSaid : Prop := Claim7.holds Tryd.pinned (.plain (OpenSpec.ofChange fnExactFirstReelsSpec)) fnExactFirstReelsCard

/-- THE TIED CARD OF 'laws.FnExactCheckReels'. -/
def fnExactCheckReelsCard : Claim7 := { stood := { row := fnExactCheckReelsRow, standIns := [], harness := (true, "980720a773f48fac2a4ead06106de1eed64ad2196c82b46bd837bfd2bfc7f674"), looks := true }, kinds := [], alts := [], laidByText := true, laidKinds := [.sentinel, .sentinel, .sentinel, .sentinel, .sentinel, .sentinel], laidTests := true, laidLooks := .later }
def FnExactCheckReelsCardSaid : Prop := Claim7.holds Tryd.pinned (.plain (OpenSpec.ofChange fnExactCheckReelsSpec)) fnExactCheckReelsCard

/-- THE TIED CARD OF 'laws.FnExactLeftOn'. -/
def fnExactLeftOnCard : Claim7 := { stood := { row := fnExactLeftOnRow, standIns := [], harness := (true, "980720a773f48fac2a4ead06106de1eed64ad2196c82b46bd837bfd2bfc7f674"), looks := true }, kinds := [], alts := [], laidByText := true, laidKinds := [.sentinel, .sentinel, .sentinel, .sentinel, .sentinel, .sentinel], laidTests := true, laidLooks := .later }
def FnExactLeftOnCardSaid : Prop := Claim7.holds Tryd.pinned (.plain (OpenSpec.ofChange fnExactLeftOnSpec)) fnExactLeftOnCard

/-- THE SECOND FORM's CARD OF 'laws.FnExactTurnsFor'. -/
def fnExactTurnsForUptoCard : Claim7 := { stood := { row := fnExactTurnsForUptoRow, standIns := [], harness := (true, "980720a773f48fac2a4ead06106de1eed64ad2196c82b46bd837bfd2bfc7f674"), looks := true }, kinds := [], alts := [], laidByText := true, laidKinds := [.sentinel, .sentinel, .sentinel, .sentinel, .sentinel, .sentinel], laidTests := true, laidLooks := .later }
def FnExactTurnsForUptoCardSaid : Prop := Claim7.holds Tryd.pinned (.plain (OpenSpec.upto fnExactTurnsForSpec)) fnExactTurnsForUptoCard

/-- THE SECOND FORM's CARD OF 'laws.FnExactTiesFor'. -/
def fnExactTiesForUptoCard : Claim7 := { stood := { row := fnExactTiesForUptoRow, standIns := [], harness := (true, "980720a773f48fac2a4ead06106de1eed64ad2196c82b46bd837bfd2bfc7f674"), looks := true }, kinds := [], alts := [], laidByText := true, laidKinds := [.sentinel, .sentinel, .sentinel, .sentinel, .sentinel, .sentinel], laidTests := true, laidLooks := .later }
def FnExactTiesForUptoCardSaid : Prop := Claim7.holds Tryd.pinned (.plain (OpenSpec.upto fnExactTiesForSpec)) fnExactTiesForUptoCard

/-- THE SECOND FORM's CARD OF 'laws.FnExactBallTurns'. -/
def fnExactBallTurnsUptoCard : Claim7 := { stood := { row := fnExactBallTurnsUptoRow, standIns := [], harness := (true, "980720a773f48fac2a4ead06106de1eed64ad2196c82b46bd837bfd2bfc7f674"), looks := true }, kinds := [], alts := [], laidByText := true, laidKinds := [.sentinel, .sentinel, .sentinel, .sentinel, .sentinel, .sentinel], laidTests := true, laidLooks := .later }
def FnExactBallTurnsUptoCardSaid : Prop := Claim7.holds Tryd.pinned (.plain (OpenSpec.upto fnExactBallTurnsSpec)) fnExactBallTurnsUptoCard

/-- THE SECOND FORM's CARD OF 'laws.FnExactBallLength'. -/
def fnExactBallLengthUptoCard : Claim7 := { stood := { row := fnExactBallLengthUptoRow, standIns := [], harness := (true, "980720a773f48fac2a4ead06106de1eed64ad2196c82b46bd837bfd2bfc7f674"), looks := true }, kinds := [], alts := [], laidByText := true, laidKinds := [.sentinel, .sentinel, .sentinel, .sentinel, .sentinel, .sentinel], laidTests := true, laidLooks := .later }
def FnExactBallLengthUptoCardSaid : Prop := Claim7.holds Tryd.pinned (.plain (OpenSpec.upto fnExactBallLengthSpec)) fnExactBallLengthUptoCard

/-- THE SECOND FORM's CARD OF 'laws.FnExactOnReel'. -/
def fnExactOnReelUptoCard : Claim7 := { stood := { row := fnExactOnReelUptoRow, standIns := [], harness := (true, "980720a773f48fac2a4ead06106de1eed64ad2196c82b46bd837bfd2bfc7f674"), looks := true }, kinds := [], alts := [], laidByText := true, laidKinds := [.sentinel, .sentinel, .sentinel, .sentinel, .sentinel, .sentinel], laidTests := true, laidLooks := .later }
def FnExactOnReelUptoCardSaid : Prop := Claim7.holds Tryd.pinned (.plain (OpenSpec.upto fnExactOnReelSpec)) fnExactOnReelUptoCard

/-- THE SECOND FORM's CARD OF 'laws.FnExactFirstReels'. -/
def fnExactFirstReelsUptoCard : Claim7 := { stood := { row := fnExactFirstReelsUptoRow, standIns := [], harness := (true, "980720a773f48fac2a4ead06106de1eed64ad2196c82b46bd837bfd2bfc7f674"), looks := true }, kinds := [], alts := [], laidByText := true, laidKinds := [.sentinel, .sentinel, .sentinel, .sentinel, .sentinel, .sentinel], laidTests := true, laidLooks := .later }
def FnExactFirstReelsUptoCardSaid : Prop := Claim7.holds Tryd.pinned (.plain (OpenSpec.upto fnExactFirstReelsSpec)) fnExactFirstReelsUptoCard

/-- THE SECOND FORM's CARD OF 'laws.FnExactCheckReels'. -/
def fnExactCheckReelsUptoCard : Claim7 := { stood := { row := fnExactCheckReelsUptoRow, standIns := [], harness := (true, "980720a773f48fac2a4ead06106de1eed64ad2196c82b46bd837bfd2bfc7f674"), looks := true }, kinds := [], alts := [], laidByText := true, laidKinds := [.sentinel, .sentinel, .sentinel, .sentinel, .sentinel, .sentinel], laidTests := true, laidLooks := .later }
def FnExactCheckReelsUptoCardSaid : Prop := Claim7.holds Tryd.pinned (.plain (OpenSpec.upto fnExactCheckReelsSpec)) fnExactCheckReelsUptoCard

/-- THE SECOND FORM's CARD OF 'laws.FnExactLeftOn'. -/
def fnExactLeftOnUptoCard : Claim7 := { stood := { row := fnExactLeftOnUptoRow, standIns := [], harness := (true, "980720a773f48fac2a4ead06106de1eed64ad2196c82b46bd837bfd2bfc7f674"), looks := true }, kinds := [], alts := [], laidByText := true, laidKinds := [.sentinel, .sentinel, .sentinel, .sentinel, .sentinel, .sentinel], laidTests := true, laidLooks := .later }
def FnExactLeftOnUptoCardSaid : Prop := Claim7.holds Tryd.pinned (.plain (OpenSpec.upto fnExactLeftOnSpec)) fnExactLeftOnUptoCard
end Rows
end Go.Proofs.YtibkocbfcdddfaaDoor
