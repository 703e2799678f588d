/-
  DERIVED. GIVEN WITH THE SEED: THE CARDS: each row of YtaanjjmochfhgaaDoorRows.lean that lists a variable, with what it lists TIED to the program's text (the seventh form; the later family's looks); each row that meets fmt, with fmt's text TOLD by the authors' own Lean function (tested against real Go, not proved from fmt's source: count such statements apart). THE CARD IS WHAT COUNTS. Prove the row's statement (the work); the ties are given (YtaanjjmochfhgaaDoorTie.lean); close each card by the builder's one call (the guide's Derived/Test/ToyasCard.lean, 'card_holds'). Laid BY PROGRAM, IN A SANDBOX (cutbox-door.mjs). By AI agents, Wed Nov 11 2026. No macro, syntax, notation, axiom, sorry.
-/
import Derived.Test.YtaanjjmochfhgaaDoorRows
import GoSem.ClaimSeven
namespace Go.Proofs.YtaanjjmochfhgaaDoor
namespace Rows

/-- THE TIED CARD OF 'laws.FnExactOnReel'. -/
def fnExactOnReelCard : Claim7 := { stood := { row := fnExactOnReelRow, standIns := [], harness := (true, "41cd7af66ed81476b30445fa29a9d4e6f2a2f18c5c9ffc3379f30cbd94f95f65"), looks := true }, kinds := [], alts := [], laidByText := true, laidKinds := [.sentinel, .sentinel, .sentinel, .sentinel, .sentinel, .sentinel], laidTests := true, laidLooks := .later }
def FnExactOnReelCardSaid : Prop := Claim7.holds Tryd.pinned (.plain (OpenSpec.ofChange fnExactOnReelSpec)) fnExactOnReelCard

/-- THE TIED CARD OF 'laws.FnExactCheckReels'. -/
def fnExactCheckReelsCard : Claim7 := { stood := { row := fnExactCheckReelsRow, standIns := [], harness := (true, "41cd7af66ed81476b30445fa29a9d4e6f2a2f18c5c9ffc3379f30cbd94f95f65"), looks := true }, kinds := [], alts := [], laidByText := true, laidKinds := [.sentinel, .sentinel, .sentinel, .sentinel, .sentinel, .sentinel], laidTests := true, laidLooks := .later }
def FnExactCheckReelsCardSaid : Prop := Claim7.holds Tryd.pinned (.plain (OpenSpec.ofChange fnExactCheckReelsSpec)) fnExactCheckReelsCard

/-- THE TIED CARD OF 'laws.FnExactLeftOn'. -/
def fnExactLeftOnCard : Claim7 := { stood := { row := fnExactLeftOnRow, standIns := [], harness := (true, "41cd7af66ed81476b30445fa29a9d4e6f2a2f18c5c9ffc3379f30cbd94f95f65"), looks := true }, kinds := [], alts := [], laidByText := true, laidKinds := [.sentinel, .sentinel, .sentinel, .sentinel, .sentinel, .sentinel], laidTests := true, laidLooks := .later }
def FnExactLeftOnCardSaid : Prop := Claim7.holds Tryd.pinned (.plain (OpenSpec.ofChange fnExactLeftOnSpec)) fnExactLeftOnCard

/-- THE TIED CARD OF 'laws.FnExactFirstReels'. -/
def fnExactFirstReelsCard : Claim7 := { stood := { row := fnExactFirstReelsRow, standIns := [], harness := (true, "41cd7af66ed81476b30445fa29a9d4e6f2a2f18c5c9ffc3379f30cbd94f95f65"), looks := true }, kinds := [], alts := [], laidByText := true, laidKinds := [.sentinel, .sentinel, .sentinel, .sentinel, .sentinel, .sentinel], laidTests := true, laidLooks := .later }
def FnExactFirstReelsCardSaid : Prop := Claim7.holds Tryd.pinned (.plain (OpenSpec.ofChange fnExactFirstReelsSpec)) fnExactFirstReelsCard

/-- THE SECOND FORM's CARD OF 'laws.FnExactOnReel'. -/
def fnExactOnReelUptoCard : Claim7 := { stood := { row := fnExactOnReelUptoRow, standIns := [], harness := (true, "41cd7af66ed81476b30445fa29a9d4e6f2a2f18c5c9ffc3379f30cbd94f95f65"), looks := true }, kinds := [], alts := [], laidByText := true, laidKinds := [.sentinel, .sentinel, .sentinel, .sentinel, .sentinel, .sentinel], laidTests := true, laidLooks := .later }
def FnExactOnReelUptoCardSaid : Prop := Claim7.holds Tryd.pinned (.plain (OpenSpec.upto fnExactOnReelSpec)) fnExactOnReelUptoCard

/-- THE SECOND FORM's CARD OF 'laws.FnExactCheckReels'. -/
def fnExactCheckReelsUptoCard : Claim7 := { stood := { row := fnExactCheckReelsUptoRow, standIns := [], harness := (true, "41cd7af66ed81476b30445fa29a9d4e6f2a2f18c5c9ffc3379f30cbd94f95f65"), looks := true }, kinds := [], alts := [], laidByText := true, laidKinds := [.sentinel, .sentinel, .sentinel, .sentinel, .sentinel, .sentinel], laidTests := true, laidLooks := .later }
def FnExactCheckReelsUptoCardSaid : Prop := Claim7.holds Tryd.pinned (.plain (OpenSpec.upto fnExactCheckReelsSpec)) fnExactCheckReelsUptoCard

/-- THE SECOND FORM's CARD OF 'laws.FnExactLeftOn'. -/
def fnExactLeftOnUptoCard : Claim7 := { stood := { row := fnExactLeftOnUptoRow, standIns := [], harness := (true, "41cd7af66ed81476b30445fa29a9d4e6f2a2f18c5c9ffc3379f30cbd94f95f65"), looks := true }, kinds := [], alts := [], laidByText := true, laidKinds := [.sentinel, .sentinel, .sentinel, .sentinel, .sentinel, .sentinel], laidTests := true, laidLooks := .later }
def FnExactLeftOnUptoCardSaid : Prop := Claim7.holds Tryd.pinned (.plain (OpenSpec.upto fnExactLeftOnSpec)) fnExactLeftOnUptoCard

/-- THE SECOND FORM's CARD OF 'laws.FnExactFirstReels'. -/
def fnExactFirstReelsUptoCard : Claim7 := { stood := { row := fnExactFirstReelsUptoRow, standIns := [], harness := (true, "41cd7af66ed81476b30445fa29a9d4e6f2a2f18c5c9ffc3379f30cbd94f95f65"), looks := true }, kinds := [], alts := [], laidByText := true, laidKinds := [.sentinel, .sentinel, .sentinel, .sentinel, .sentinel, .sentinel], laidTests := true, laidLooks := .later }
def FnExactFirstReelsUptoCardSaid : Prop := Claim7.holds Tryd.pinned (.plain (OpenSpec.upto fnExactFirstReelsSpec)) fnExactFirstReelsUptoCard
end Rows
end Go.Proofs.YtaanjjmochfhgaaDoor
