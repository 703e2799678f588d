/-
  DERIVED. GIVEN WITH THE SEED: THE CARDS: each row of YtcdjabhdbobghaaDoorRows.lean that lists a variable, with what it lists TIED to the program's text (the seventh form; the later family's looks); each row that meets fmt, with fmt's text TOLD by the authors' own Lean function (tested against real Go, not proved from fmt's source: count such statements apart). THE CARD IS WHAT COUNTS. Prove the row's statement (the work); the ties are given (YtcdjabhdbobghaaDoorTie.lean); close each card by the builder's one call (the guide's Derived/Test/ToyasCard.lean, 'card_holds'). Laid BY PROGRAM, IN A SANDBOX (cutbox-door.mjs). By AI agents, Wed Nov 11 2026. No macro, syntax, notation, axiom, sorry.
-/
import Derived.Test.YtcdjabhdbobghaaDoorRows
import GoSem.ClaimSeven
namespace Go.Proofs.YtcdjabhdbobghaaDoor
namespace Rows

/-- THE TIED CARD OF 'laws.FnExactGoesTo'. -/
def fnExactGoesToCard : Claim7 := { stood := { row := fnExactGoesToRow, standIns := [], harness := (true, "28a6c94b91ba20e933df885157807684dc2d9ca45afd5e709982e0772e908080"), looks := true }, kinds := [], alts := [], laidByText := true, laidKinds := [.sentinel, .sentinel, .sentinel, .sentinel, .sentinel, .sentinel], laidTests := true, laidLooks := .later }
def FnExactGoesToCardSaid : Prop := Claim7.holds Tryd.pinned (.plain (OpenSpec.ofChange fnExactGoesToSpec)) fnExactGoesToCard

/-- THE TIED CARD OF 'laws.FnExactFromOf'. -/
def fnExactFromOfCard : Claim7 := { stood := { row := fnExactFromOfRow, standIns := [], harness := (true, "28a6c94b91ba20e933df885157807684dc2d9ca45afd5e709982e0772e908080"), looks := true }, kinds := [], alts := [], laidByText := true, laidKinds := [.sentinel, .sentinel, .sentinel, .sentinel, .sentinel, .sentinel], laidTests := true, laidLooks := .later }
def FnExactFromOfCardSaid : Prop := Claim7.holds Tryd.pinned (.plain (OpenSpec.ofChange fnExactFromOfSpec)) fnExactFromOfCard

/-- THE TIED CARD OF 'laws.FnExactFirstBadRow'. -/
def fnExactFirstBadRowCard : Claim7 := { stood := { row := fnExactFirstBadRowRow, standIns := [], harness := (true, "28a6c94b91ba20e933df885157807684dc2d9ca45afd5e709982e0772e908080"), looks := true }, kinds := [], alts := [], laidByText := true, laidKinds := [.handle, .sentinel, .sentinel, .sentinel, .sentinel, .sentinel, .sentinel], laidTests := true, laidLooks := .later }
def FnExactFirstBadRowCardSaid : Prop := Claim7.holds Tryd.pinned (.plain (OpenSpec.ofChange fnExactFirstBadRowSpec)) fnExactFirstBadRowCard

/-- THE SECOND FORM's CARD OF 'laws.FnExactGoesTo'. -/
def fnExactGoesToUptoCard : Claim7 := { stood := { row := fnExactGoesToUptoRow, standIns := [], harness := (true, "28a6c94b91ba20e933df885157807684dc2d9ca45afd5e709982e0772e908080"), looks := true }, kinds := [], alts := [], laidByText := true, laidKinds := [.sentinel, .sentinel, .sentinel, .sentinel, .sentinel, .sentinel], laidTests := true, laidLooks := .later }
def FnExactGoesToUptoCardSaid : Prop := Claim7.holds Tryd.pinned (.plain (OpenSpec.upto fnExactGoesToSpec)) fnExactGoesToUptoCard

/-- THE SECOND FORM's CARD OF 'laws.FnExactFromOf'. -/
def fnExactFromOfUptoCard : Claim7 := { stood := { row := fnExactFromOfUptoRow, standIns := [], harness := (true, "28a6c94b91ba20e933df885157807684dc2d9ca45afd5e709982e0772e908080"), looks := true }, kinds := [], alts := [], laidByText := true, laidKinds := [.sentinel, .sentinel, .sentinel, .sentinel, .sentinel, .sentinel], laidTests := true, laidLooks := .later }
def FnExactFromOfUptoCardSaid : Prop := Claim7.holds Tryd.pinned (.plain (OpenSpec.upto fnExactFromOfSpec)) fnExactFromOfUptoCard

/-- THE SECOND FORM's CARD OF 'laws.FnExactFirstBadRow'. -/
def fnExactFirstBadRowUptoCard : Claim7 := { stood := { row := fnExactFirstBadRowUptoRow, standIns := [], harness := (true, "28a6c94b91ba20e933df885157807684dc2d9ca45afd5e709982e0772e908080"), looks := true }, kinds := [], alts := [], laidByText := true, laidKinds := [.handle, .sentinel, .sentinel, .sentinel, .sentinel, .sentinel, .sentinel], laidTests := true, laidLooks := .later }
def FnExactFirstBadRowUptoCardSaid : Prop := Claim7.holds Tryd.pinned (.plain (OpenSpec.upto fnExactFirstBadRowSpec)) fnExactFirstBadRowUptoCard
end Rows
end Go.Proofs.YtcdjabhdbobghaaDoor
