/-
  DERIVED. GIVEN WITH THE SEED: THE CARDS: each row of YtokngocokiekeaaDoorRows.lean that lists a variable, with what it lists TIED to the program's text (the seventh form; the later family's looks); each row that meets fmt, with fmt's text TOLD by the authors' own Lean function (tested against real Go, not proved from fmt's source: count such statements apart). THE CARD IS WHAT COUNTS. Prove the row's statement (the work); the ties are given (YtokngocokiekeaaDoorTie.lean); close each card by the builder's one call (the guide's Derived/Test/ToyasCard.lean, 'card_holds'). Laid BY PROGRAM, IN A SANDBOX (cutbox-door.mjs). By AI agents, Wed Nov 11 2026. No macro, syntax, notation, axiom, sorry.
-/
import Derived.Test.YtokngocokiekeaaDoorRows
import GoSem.ClaimSeven
namespace Go.Proofs.YtokngocokiekeaaDoor
namespace Rows

/-- THE TIED CARD OF 'laws.FnExactValidFabric'. -/
def fnExactValidFabricCard : Claim7 := { stood := { row := fnExactValidFabricRow, standIns := [], harness := (true, "73ad73f8a5414284c122fa8c03f4a46d71b51a44d9072fc667b33a3deda750f2"), looks := true }, kinds := [], alts := [], laidByText := true, laidKinds := [.sentinel, .sentinel, .sentinel, .sentinel, .sentinel, .sentinel], laidTests := true, laidLooks := .later }
def FnExactValidFabricCardSaid : Prop := Claim7.holds Tryd.pinned (.plain (OpenSpec.ofChange fnExactValidFabricSpec)) fnExactValidFabricCard

/-- THE TIED CARD OF 'laws.FnExactWidthsOf'. -/
def fnExactWidthsOfCard : Claim7 := { stood := { row := fnExactWidthsOfRow, standIns := [], harness := (true, "73ad73f8a5414284c122fa8c03f4a46d71b51a44d9072fc667b33a3deda750f2"), looks := true }, kinds := [], alts := [], laidByText := true, laidKinds := [.sentinel, .sentinel, .sentinel, .sentinel, .sentinel, .sentinel], laidTests := true, laidLooks := .later }
def FnExactWidthsOfCardSaid : Prop := Claim7.holds Tryd.pinned (.plain (OpenSpec.ofChange fnExactWidthsOfSpec)) fnExactWidthsOfCard

/-- THE TIED CARD OF 'laws.FnExactAddRow'. -/
def fnExactAddRowCard : Claim7 := { stood := { row := fnExactAddRowRow, standIns := [], harness := (true, "73ad73f8a5414284c122fa8c03f4a46d71b51a44d9072fc667b33a3deda750f2"), looks := true }, kinds := [], alts := [], laidByText := true, laidKinds := [.sentinel, .sentinel, .sentinel, .sentinel, .sentinel, .sentinel], laidTests := true, laidLooks := .later }
def FnExactAddRowCardSaid : Prop := Claim7.holds Tryd.pinned (.plain (OpenSpec.ofChange fnExactAddRowSpec)) fnExactAddRowCard

/-- THE TIED CARD OF 'laws.FnExactFirstBadRow'. -/
def fnExactFirstBadRowCard : Claim7 := { stood := { row := fnExactFirstBadRowRow, standIns := [], harness := (true, "73ad73f8a5414284c122fa8c03f4a46d71b51a44d9072fc667b33a3deda750f2"), looks := true }, kinds := [], alts := [], laidByText := true, laidKinds := [.handle, .sentinel, .sentinel, .sentinel, .sentinel, .sentinel, .sentinel], laidTests := true, laidLooks := .later }
def FnExactFirstBadRowCardSaid : Prop := Claim7.holds Tryd.pinned (.plain (OpenSpec.ofChange fnExactFirstBadRowSpec)) fnExactFirstBadRowCard

/-- THE TIED CARD OF 'laws.FnExactFromOf'. -/
def fnExactFromOfCard : Claim7 := { stood := { row := fnExactFromOfRow, standIns := [], harness := (true, "73ad73f8a5414284c122fa8c03f4a46d71b51a44d9072fc667b33a3deda750f2"), looks := true }, kinds := [], alts := [], laidByText := true, laidKinds := [.sentinel, .sentinel, .sentinel, .sentinel, .sentinel, .sentinel], laidTests := true, laidLooks := .later }
def FnExactFromOfCardSaid : Prop := Claim7.holds Tryd.pinned (.plain (OpenSpec.ofChange fnExactFromOfSpec)) fnExactFromOfCard

/-- THE TIED CARD OF 'laws.FnExactGoesTo'. -/
def fnExactGoesToCard : Claim7 := { stood := { row := fnExactGoesToRow, standIns := [], harness := (true, "73ad73f8a5414284c122fa8c03f4a46d71b51a44d9072fc667b33a3deda750f2"), looks := true }, kinds := [], alts := [], laidByText := true, laidKinds := [.sentinel, .sentinel, .sentinel, .sentinel, .sentinel, .sentinel], laidTests := true, laidLooks := .later }
def FnExactGoesToCardSaid : Prop := Claim7.holds Tryd.pinned (.plain (OpenSpec.ofChange fnExactGoesToSpec)) fnExactGoesToCard

/-- THE TIED CARD OF 'laws.FnExactYarnFor'. -/
def fnExactYarnForCard : Claim7 := { stood := { row := fnExactYarnForRow, standIns := [], harness := (true, "73ad73f8a5414284c122fa8c03f4a46d71b51a44d9072fc667b33a3deda750f2"), looks := true }, kinds := [], alts := [], laidByText := true, laidKinds := [.sentinel, .sentinel, .sentinel, .sentinel, .sentinel, .sentinel], laidTests := true, laidLooks := .later }
def FnExactYarnForCardSaid : Prop := Claim7.holds Tryd.pinned (.plain (OpenSpec.ofChange fnExactYarnForSpec)) fnExactYarnForCard

/-- THE TIED CARD OF 'laws.FnExactRowsWith'. -/
def fnExactRowsWithCard : Claim7 := { stood := { row := fnExactRowsWithRow, standIns := [], harness := (true, "73ad73f8a5414284c122fa8c03f4a46d71b51a44d9072fc667b33a3deda750f2"), looks := true }, kinds := [], alts := [], laidByText := true, laidKinds := [.sentinel, .sentinel, .sentinel, .sentinel, .sentinel, .sentinel], laidTests := true, laidLooks := .later }
def FnExactRowsWithCardSaid : Prop := Claim7.holds Tryd.pinned (.plain (OpenSpec.ofChange fnExactRowsWithSpec)) fnExactRowsWithCard

/-- THE TIED CARD OF 'laws.FnExactFrogTo'. -/
def fnExactFrogToCard : Claim7 := { stood := { row := fnExactFrogToRow, standIns := [], harness := (true, "73ad73f8a5414284c122fa8c03f4a46d71b51a44d9072fc667b33a3deda750f2"), looks := true }, kinds := [], alts := [], laidByText := true, laidKinds := [.sentinel, .sentinel, .sentinel, .sentinel, .sentinel, .sentinel], laidTests := true, laidLooks := .later }
def FnExactFrogToCardSaid : Prop := Claim7.holds Tryd.pinned (.plain (OpenSpec.ofChange fnExactFrogToSpec)) fnExactFrogToCard

/-- THE TIED CARD OF 'laws.FnExactShapeRow'. -/
def fnExactShapeRowCard : Claim7 := { stood := { row := fnExactShapeRowRow, standIns := [], harness := (true, "73ad73f8a5414284c122fa8c03f4a46d71b51a44d9072fc667b33a3deda750f2"), looks := true }, kinds := [], alts := [], laidByText := true, laidKinds := [.sentinel, .sentinel, .sentinel, .sentinel, .sentinel, .sentinel], laidTests := true, laidLooks := .later }
def FnExactShapeRowCardSaid : Prop := Claim7.holds Tryd.pinned (.plain (OpenSpec.ofChange fnExactShapeRowSpec)) fnExactShapeRowCard

/-- THE TIED CARD OF 'laws.FnExactShapeRows'. -/
def fnExactShapeRowsCard : Claim7 := { stood := { row := fnExactShapeRowsRow, standIns := [], harness := (true, "73ad73f8a5414284c122fa8c03f4a46d71b51a44d9072fc667b33a3deda750f2"), looks := true }, kinds := [], alts := [], laidByText := true, laidKinds := [.sentinel, .sentinel, .sentinel, .sentinel, .sentinel, .sentinel], laidTests := true, laidLooks := .later }
def FnExactShapeRowsCardSaid : Prop := Claim7.holds Tryd.pinned (.plain (OpenSpec.ofChange fnExactShapeRowsSpec)) fnExactShapeRowsCard

/-- THE TIED CARD OF 'laws.FnExactMirrorFabric'. -/
def fnExactMirrorFabricCard : Claim7 := { stood := { row := fnExactMirrorFabricRow, standIns := [], harness := (true, "73ad73f8a5414284c122fa8c03f4a46d71b51a44d9072fc667b33a3deda750f2"), looks := true }, kinds := [], alts := [], laidByText := true, laidKinds := [.sentinel, .sentinel, .sentinel, .sentinel, .sentinel, .sentinel], laidTests := true, laidLooks := .later }
def FnExactMirrorFabricCardSaid : Prop := Claim7.holds Tryd.pinned (.plain (OpenSpec.ofChange fnExactMirrorFabricSpec)) fnExactMirrorFabricCard

/-- THE TIED CARD OF 'laws.FnExactCountStitch'. -/
def fnExactCountStitchCard : Claim7 := { stood := { row := fnExactCountStitchRow, standIns := [], harness := (true, "73ad73f8a5414284c122fa8c03f4a46d71b51a44d9072fc667b33a3deda750f2"), looks := true }, kinds := [], alts := [], laidByText := true, laidKinds := [.sentinel, .sentinel, .sentinel, .sentinel, .sentinel, .sentinel], laidTests := true, laidLooks := .later }
def FnExactCountStitchCardSaid : Prop := Claim7.holds Tryd.pinned (.plain (OpenSpec.ofChange fnExactCountStitchSpec)) fnExactCountStitchCard

/-- THE TIED CARD OF 'laws.FnExactGraftLength'. -/
def fnExactGraftLengthCard : Claim7 := { stood := { row := fnExactGraftLengthRow, standIns := [], harness := (true, "73ad73f8a5414284c122fa8c03f4a46d71b51a44d9072fc667b33a3deda750f2"), looks := true }, kinds := [], alts := [], laidByText := true, laidKinds := [.sentinel, .sentinel, .sentinel, .sentinel, .sentinel, .sentinel], laidTests := true, laidLooks := .later }
def FnExactGraftLengthCardSaid : Prop := Claim7.holds Tryd.pinned (.plain (OpenSpec.ofChange fnExactGraftLengthSpec)) fnExactGraftLengthCard

/-- THE SECOND FORM's CARD OF 'laws.FnExactValidFabric'. -/
def fnExactValidFabricUptoCard : Claim7 := { stood := { row := fnExactValidFabricUptoRow, standIns := [], harness := (true, "73ad73f8a5414284c122fa8c03f4a46d71b51a44d9072fc667b33a3deda750f2"), looks := true }, kinds := [], alts := [], laidByText := true, laidKinds := [.sentinel, .sentinel, .sentinel, .sentinel, .sentinel, .sentinel], laidTests := true, laidLooks := .later }
def FnExactValidFabricUptoCardSaid : Prop := Claim7.holds Tryd.pinned (.plain (OpenSpec.upto fnExactValidFabricSpec)) fnExactValidFabricUptoCard

/-- THE SECOND FORM's CARD OF 'laws.FnExactWidthsOf'. -/
def fnExactWidthsOfUptoCard : Claim7 := { stood := { row := fnExactWidthsOfUptoRow, standIns := [], harness := (true, "73ad73f8a5414284c122fa8c03f4a46d71b51a44d9072fc667b33a3deda750f2"), looks := true }, kinds := [], alts := [], laidByText := true, laidKinds := [.sentinel, .sentinel, .sentinel, .sentinel, .sentinel, .sentinel], laidTests := true, laidLooks := .later }
def FnExactWidthsOfUptoCardSaid : Prop := Claim7.holds Tryd.pinned (.plain (OpenSpec.upto fnExactWidthsOfSpec)) fnExactWidthsOfUptoCard

/-- THE SECOND FORM's CARD OF 'laws.FnExactAddRow'. -/
def fnExactAddRowUptoCard : Claim7 := { stood := { row := fnExactAddRowUptoRow, standIns := [], harness := (true, "73ad73f8a5414284c122fa8c03f4a46d71b51a44d9072fc667b33a3deda750f2"), looks := true }, kinds := [], alts := [], laidByText := true, laidKinds := [.sentinel, .sentinel, .sentinel, .sentinel, .sentinel, .sentinel], laidTests := true, laidLooks := .later }
def FnExactAddRowUptoCardSaid : Prop := Claim7.holds Tryd.pinned (.plain (OpenSpec.upto fnExactAddRowSpec)) fnExactAddRowUptoCard

/-- THE SECOND FORM's CARD OF 'laws.FnExactFirstBadRow'. -/
def fnExactFirstBadRowUptoCard : Claim7 := { stood := { row := fnExactFirstBadRowUptoRow, standIns := [], harness := (true, "73ad73f8a5414284c122fa8c03f4a46d71b51a44d9072fc667b33a3deda750f2"), looks := true }, kinds := [], alts := [], laidByText := true, laidKinds := [.handle, .sentinel, .sentinel, .sentinel, .sentinel, .sentinel, .sentinel], laidTests := true, laidLooks := .later }
def FnExactFirstBadRowUptoCardSaid : Prop := Claim7.holds Tryd.pinned (.plain (OpenSpec.upto fnExactFirstBadRowSpec)) fnExactFirstBadRowUptoCard

/-- THE SECOND FORM's CARD OF 'laws.FnExactFromOf'. -/
def fnExactFromOfUptoCard : Claim7 := { stood := { row := fnExactFromOfUptoRow, standIns := [], harness := (true, "73ad73f8a5414284c122fa8c03f4a46d71b51a44d9072fc667b33a3deda750f2"), looks := true }, kinds := [], alts := [], laidByText := true, laidKinds := [.sentinel, .sentinel, .sentinel, .sentinel, .sentinel, .sentinel], laidTests := true, laidLooks := .later }
def FnExactFromOfUptoCardSaid : Prop := Claim7.holds Tryd.pinned (.plain (OpenSpec.upto fnExactFromOfSpec)) fnExactFromOfUptoCard

/-- THE SECOND FORM's CARD OF 'laws.FnExactGoesTo'. -/
def fnExactGoesToUptoCard : Claim7 := { stood := { row := fnExactGoesToUptoRow, standIns := [], harness := (true, "73ad73f8a5414284c122fa8c03f4a46d71b51a44d9072fc667b33a3deda750f2"), looks := true }, kinds := [], alts := [], laidByText := true, laidKinds := [.sentinel, .sentinel, .sentinel, .sentinel, .sentinel, .sentinel], laidTests := true, laidLooks := .later }
def FnExactGoesToUptoCardSaid : Prop := Claim7.holds Tryd.pinned (.plain (OpenSpec.upto fnExactGoesToSpec)) fnExactGoesToUptoCard

/-- THE SECOND FORM's CARD OF 'laws.FnExactYarnFor'. -/
def fnExactYarnForUptoCard : Claim7 := { stood := { row := fnExactYarnForUptoRow, standIns := [], harness := (true, "73ad73f8a5414284c122fa8c03f4a46d71b51a44d9072fc667b33a3deda750f2"), looks := true }, kinds := [], alts := [], laidByText := true, laidKinds := [.sentinel, .sentinel, .sentinel, .sentinel, .sentinel, .sentinel], laidTests := true, laidLooks := .later }
def FnExactYarnForUptoCardSaid : Prop := Claim7.holds Tryd.pinned (.plain (OpenSpec.upto fnExactYarnForSpec)) fnExactYarnForUptoCard

/-- THE SECOND FORM's CARD OF 'laws.FnExactRowsWith'. -/
def fnExactRowsWithUptoCard : Claim7 := { stood := { row := fnExactRowsWithUptoRow, standIns := [], harness := (true, "73ad73f8a5414284c122fa8c03f4a46d71b51a44d9072fc667b33a3deda750f2"), looks := true }, kinds := [], alts := [], laidByText := true, laidKinds := [.sentinel, .sentinel, .sentinel, .sentinel, .sentinel, .sentinel], laidTests := true, laidLooks := .later }
def FnExactRowsWithUptoCardSaid : Prop := Claim7.holds Tryd.pinned (.plain (OpenSpec.upto fnExactRowsWithSpec)) fnExactRowsWithUptoCard

/-- THE SECOND FORM's CARD OF 'laws.FnExactFrogTo'. -/
def fnExactFrogToUptoCard : Claim7 := { stood := { row := fnExactFrogToUptoRow, standIns := [], harness := (true, "73ad73f8a5414284c122fa8c03f4a46d71b51a44d9072fc667b33a3deda750f2"), looks := true }, kinds := [], alts := [], laidByText := true, laidKinds := [.sentinel, .sentinel, .sentinel, .sentinel, .sentinel, .sentinel], laidTests := true, laidLooks := .later }
def FnExactFrogToUptoCardSaid : Prop := Claim7.holds Tryd.pinned (.plain (OpenSpec.upto fnExactFrogToSpec)) fnExactFrogToUptoCard

/-- THE SECOND FORM's CARD OF 'laws.FnExactShapeRow'. -/
def fnExactShapeRowUptoCard : Claim7 := { stood := { row := fnExactShapeRowUptoRow, standIns := [], harness := (true, "73ad73f8a5414284c122fa8c03f4a46d71b51a44d9072fc667b33a3deda750f2"), looks := true }, kinds := [], alts := [], laidByText := true, laidKinds := [.sentinel, .sentinel, .sentinel, .sentinel, .sentinel, .sentinel], laidTests := true, laidLooks := .later }
def FnExactShapeRowUptoCardSaid : Prop := Claim7.holds Tryd.pinned (.plain (OpenSpec.upto fnExactShapeRowSpec)) fnExactShapeRowUptoCard

/-- THE SECOND FORM's CARD OF 'laws.FnExactShapeRows'. -/
def fnExactShapeRowsUptoCard : Claim7 := { stood := { row := fnExactShapeRowsUptoRow, standIns := [], harness := (true, "73ad73f8a5414284c122fa8c03f4a46d71b51a44d9072fc667b33a3deda750f2"), looks := true }, kinds := [], alts := [], laidByText := true, laidKinds := [.sentinel, .sentinel, .sentinel, .sentinel, .sentinel, .sentinel], laidTests := true, laidLooks := .later }
def FnExactShapeRowsUptoCardSaid : Prop := Claim7.holds Tryd.pinned (.plain (OpenSpec.upto fnExactShapeRowsSpec)) fnExactShapeRowsUptoCard

/-- THE SECOND FORM's CARD OF 'laws.FnExactMirrorFabric'. -/
def fnExactMirrorFabricUptoCard : Claim7 := { stood := { row := fnExactMirrorFabricUptoRow, standIns := [], harness := (true, "73ad73f8a5414284c122fa8c03f4a46d71b51a44d9072fc667b33a3deda750f2"), looks := true }, kinds := [], alts := [], laidByText := true, laidKinds := [.sentinel, .sentinel, .sentinel, .sentinel, .sentinel, .sentinel], laidTests := true, laidLooks := .later }
def FnExactMirrorFabricUptoCardSaid : Prop := Claim7.holds Tryd.pinned (.plain (OpenSpec.upto fnExactMirrorFabricSpec)) fnExactMirrorFabricUptoCard

/-- THE SECOND FORM's CARD OF 'laws.FnExactCountStitch'. -/
def fnExactCountStitchUptoCard : Claim7 := { stood := { row := fnExactCountStitchUptoRow, standIns := [], harness := (true, "73ad73f8a5414284c122fa8c03f4a46d71b51a44d9072fc667b33a3deda750f2"), looks := true }, kinds := [], alts := [], laidByText := true, laidKinds := [.sentinel, .sentinel, .sentinel, .sentinel, .sentinel, .sentinel], laidTests := true, laidLooks := .later }
def FnExactCountStitchUptoCardSaid : Prop := Claim7.holds Tryd.pinned (.plain (OpenSpec.upto fnExactCountStitchSpec)) fnExactCountStitchUptoCard

/-- THE SECOND FORM's CARD OF 'laws.FnExactGraftLength'. -/
def fnExactGraftLengthUptoCard : Claim7 := { stood := { row := fnExactGraftLengthUptoRow, standIns := [], harness := (true, "73ad73f8a5414284c122fa8c03f4a46d71b51a44d9072fc667b33a3deda750f2"), looks := true }, kinds := [], alts := [], laidByText := true, laidKinds := [.sentinel, .sentinel, .sentinel, .sentinel, .sentinel, .sentinel], laidTests := true, laidLooks := .later }
def FnExactGraftLengthUptoCardSaid : Prop := Claim7.holds Tryd.pinned (.plain (OpenSpec.upto fnExactGraftLengthSpec)) fnExactGraftLengthUptoCard
end Rows
end Go.Proofs.YtokngocokiekeaaDoor
