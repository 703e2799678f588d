/-
  DERIVED. GIVEN WITH THE SEED: THE CARDS: each row of YtfohacleojimeaaDoorRows.lean that lists a variable, with what it lists TIED to the program's text (the seventh form; the later family's looks); each row that meets fmt, with fmt's text TOLD by the authors' own Lean function (tested against real Go, not proved from fmt's source: count such statements apart). THE CARD IS WHAT COUNTS. Prove the row's statement (the work); the ties are given (YtfohacleojimeaaDoorTie.lean); close each card by the builder's one call (the guide's Derived/Test/ToyasCard.lean, 'card_holds'). Laid BY PROGRAM, IN A SANDBOX (cutbox-door.mjs). By AI agents, Wed Nov 11 2026. No macro, syntax, notation, axiom, sorry.
-/
import Derived.Test.YtfohacleojimeaaDoorRows
import GoSem.ClaimSeven
namespace Go.Proofs.YtfohacleojimeaaDoor
namespace Rows

/-- THE TIED CARD OF 'laws.FnExactShapeRow'. -/
def fnExactShapeRowCard : Claim7 := { stood := { row := fnExactShapeRowRow, standIns := [], harness := (true, "215c923519c4a562510ca84f3f6b3209b888985d67d4cd27c08409d5ed9f4e5a"), looks := true }, kinds := [], alts := [], laidByText := true, laidKinds := [.sentinel, .sentinel, .sentinel, .sentinel, .sentinel, .sentinel], laidTests := true, laidLooks := .later }
def FnExactShapeRowCardSaid : Prop := Claim7.holds Tryd.pinned (.plain (OpenSpec.ofChange fnExactShapeRowSpec)) fnExactShapeRowCard

/-- THE TIED CARD OF 'laws.FnExactShapeRows'. -/
def fnExactShapeRowsCard : Claim7 := { stood := { row := fnExactShapeRowsRow, standIns := [], harness := (true, "215c923519c4a562510ca84f3f6b3209b888985d67d4cd27c08409d5ed9f4e5a"), looks := true }, kinds := [], alts := [], laidByText := true, laidKinds := [.sentinel, .sentinel, .sentinel, .sentinel, .sentinel, .sentinel], laidTests := true, laidLooks := .later }
def FnExactShapeRowsCardSaid : Prop := Claim7.holds Tryd.pinned (.plain (OpenSpec.ofChange fnExactShapeRowsSpec)) fnExactShapeRowsCard

/-- THE SECOND FORM's CARD OF 'laws.FnExactShapeRow'. -/
def fnExactShapeRowUptoCard : Claim7 := { stood := { row := fnExactShapeRowUptoRow, standIns := [], harness := (true, "215c923519c4a562510ca84f3f6b3209b888985d67d4cd27c08409d5ed9f4e5a"), looks := true }, kinds := [], alts := [], laidByText := true, laidKinds := [.sentinel, .sentinel, .sentinel, .sentinel, .sentinel, .sentinel], laidTests := true, laidLooks := .later }
def FnExactShapeRowUptoCardSaid : Prop := Claim7.holds Tryd.pinned (.plain (OpenSpec.upto fnExactShapeRowSpec)) fnExactShapeRowUptoCard

/-- THE SECOND FORM's CARD OF 'laws.FnExactShapeRows'. -/
def fnExactShapeRowsUptoCard : Claim7 := { stood := { row := fnExactShapeRowsUptoRow, standIns := [], harness := (true, "215c923519c4a562510ca84f3f6b3209b888985d67d4cd27c08409d5ed9f4e5a"), looks := true }, kinds := [], alts := [], laidByText := true, laidKinds := [.sentinel, .sentinel, .sentinel, .sentinel, .sentinel, .sentinel], laidTests := true, laidLooks := .later }
def FnExactShapeRowsUptoCardSaid : Prop := Claim7.holds Tryd.pinned (.plain (OpenSpec.upto fnExactShapeRowsSpec)) fnExactShapeRowsUptoCard
end Rows
end Go.Proofs.YtfohacleojimeaaDoor
