/-
  DERIVED. GIVEN WITH THE SEED: THE CARDS: each row of YtilbadnnmhcdoaaDoorRows.lean that lists a variable, with what it lists TIED to the program's text (the seventh form; the later family's looks); each row that meets fmt, with fmt's text TOLD by the authors' own Lean function (tested against real Go, not proved from fmt's source: count such statements apart). THE CARD IS WHAT COUNTS. Prove the row's statement (the work); the ties are given (YtilbadnnmhcdoaaDoorTie.lean); close each card by the builder's one call (the guide's Derived/Test/ToyasCard.lean, 'card_holds'). Laid BY PROGRAM, IN A SANDBOX (cutbox-door.mjs). By AI agents, Wed Nov 11 2026. No macro, syntax, notation, axiom, sorry.
-/
import Derived.Test.YtilbadnnmhcdoaaDoorRows
import GoSem.ClaimSeven
namespace Go.Proofs.YtilbadnnmhcdoaaDoor
namespace Rows

/-- THE TIED CARD OF 'laws.FnExactAddRow'. -/
def fnExactAddRowCard : Claim7 := { stood := { row := fnExactAddRowRow, standIns := [], harness := (true, "7e8bea4a215dfbdb6e98c591b116c70cb109fe848c5f42ebdf3c0f065e8f3486"), looks := true }, kinds := [], alts := [], laidByText := true, laidKinds := [.sentinel, .sentinel, .sentinel, .sentinel, .sentinel, .sentinel], laidTests := true, laidLooks := .later }
def FnExactAddRowCardSaid : Prop := Claim7.holds Tryd.pinned (.plain (OpenSpec.ofChange fnExactAddRowSpec)) fnExactAddRowCard

/-- THE TIED CARD OF 'laws.FnExactFromOf'. -/
def fnExactFromOfCard : Claim7 := { stood := { row := fnExactFromOfRow, standIns := [], harness := (true, "7e8bea4a215dfbdb6e98c591b116c70cb109fe848c5f42ebdf3c0f065e8f3486"), looks := true }, kinds := [], alts := [], laidByText := true, laidKinds := [.sentinel, .sentinel, .sentinel, .sentinel, .sentinel, .sentinel], laidTests := true, laidLooks := .later }
def FnExactFromOfCardSaid : Prop := Claim7.holds Tryd.pinned (.plain (OpenSpec.ofChange fnExactFromOfSpec)) fnExactFromOfCard

/-- THE TIED CARD OF 'laws.FnExactGoesTo'. -/
def fnExactGoesToCard : Claim7 := { stood := { row := fnExactGoesToRow, standIns := [], harness := (true, "7e8bea4a215dfbdb6e98c591b116c70cb109fe848c5f42ebdf3c0f065e8f3486"), looks := true }, kinds := [], alts := [], laidByText := true, laidKinds := [.sentinel, .sentinel, .sentinel, .sentinel, .sentinel, .sentinel], laidTests := true, laidLooks := .later }
def FnExactGoesToCardSaid : Prop := Claim7.holds Tryd.pinned (.plain (OpenSpec.ofChange fnExactGoesToSpec)) fnExactGoesToCard

/-- THE TIED CARD OF 'laws.FnExactFrogTo'. -/
def fnExactFrogToCard : Claim7 := { stood := { row := fnExactFrogToRow, standIns := [], harness := (true, "7e8bea4a215dfbdb6e98c591b116c70cb109fe848c5f42ebdf3c0f065e8f3486"), looks := true }, kinds := [], alts := [], laidByText := true, laidKinds := [.sentinel, .sentinel, .sentinel, .sentinel, .sentinel, .sentinel], laidTests := true, laidLooks := .later }
def FnExactFrogToCardSaid : Prop := Claim7.holds Tryd.pinned (.plain (OpenSpec.ofChange fnExactFrogToSpec)) fnExactFrogToCard

/-- THE TIED CARD OF 'laws.FnExactRepeatRow'. -/
def fnExactRepeatRowCard : Claim7 := { stood := { row := fnExactRepeatRowRow, standIns := [], harness := (true, "7e8bea4a215dfbdb6e98c591b116c70cb109fe848c5f42ebdf3c0f065e8f3486"), looks := true }, kinds := [], alts := [], laidByText := true, laidKinds := [.sentinel, .sentinel, .sentinel, .sentinel, .sentinel, .sentinel], laidTests := true, laidLooks := .later }
def FnExactRepeatRowCardSaid : Prop := Claim7.holds Tryd.pinned (.plain (OpenSpec.ofChange fnExactRepeatRowSpec)) fnExactRepeatRowCard

/-- THE TIED CARD OF 'laws.FnExactMirrorFabric'. -/
def fnExactMirrorFabricCard : Claim7 := { stood := { row := fnExactMirrorFabricRow, standIns := [], harness := (true, "7e8bea4a215dfbdb6e98c591b116c70cb109fe848c5f42ebdf3c0f065e8f3486"), looks := true }, kinds := [], alts := [], laidByText := true, laidKinds := [.sentinel, .sentinel, .sentinel, .sentinel, .sentinel, .sentinel], laidTests := true, laidLooks := .later }
def FnExactMirrorFabricCardSaid : Prop := Claim7.holds Tryd.pinned (.plain (OpenSpec.ofChange fnExactMirrorFabricSpec)) fnExactMirrorFabricCard

/-- THE SECOND FORM's CARD OF 'laws.FnExactAddRow'. -/
def fnExactAddRowUptoCard : Claim7 := { stood := { row := fnExactAddRowUptoRow, standIns := [], harness := (true, "7e8bea4a215dfbdb6e98c591b116c70cb109fe848c5f42ebdf3c0f065e8f3486"), looks := true }, kinds := [], alts := [], laidByText := true, laidKinds := [.sentinel, .sentinel, .sentinel, .sentinel, .sentinel, .sentinel], laidTests := true, laidLooks := .later }
def FnExactAddRowUptoCardSaid : Prop := Claim7.holds Tryd.pinned (.plain (OpenSpec.upto fnExactAddRowSpec)) fnExactAddRowUptoCard

/-- THE SECOND FORM's CARD OF 'laws.FnExactFromOf'. -/
def fnExactFromOfUptoCard : Claim7 := { stood := { row := fnExactFromOfUptoRow, standIns := [], harness := (true, "7e8bea4a215dfbdb6e98c591b116c70cb109fe848c5f42ebdf3c0f065e8f3486"), looks := true }, kinds := [], alts := [], laidByText := true, laidKinds := [.sentinel, .sentinel, .sentinel, .sentinel, .sentinel, .sentinel], laidTests := true, laidLooks := .later }
def FnExactFromOfUptoCardSaid : Prop := Claim7.holds Tryd.pinned (.plain (OpenSpec.upto fnExactFromOfSpec)) fnExactFromOfUptoCard

/-- THE SECOND FORM's CARD OF 'laws.FnExactGoesTo'. -/
def fnExactGoesToUptoCard : Claim7 := { stood := { row := fnExactGoesToUptoRow, standIns := [], harness := (true, "7e8bea4a215dfbdb6e98c591b116c70cb109fe848c5f42ebdf3c0f065e8f3486"), looks := true }, kinds := [], alts := [], laidByText := true, laidKinds := [.sentinel, .sentinel, .sentinel, .sentinel, .sentinel, .sentinel], laidTests := true, laidLooks := .later }
def FnExactGoesToUptoCardSaid : Prop := Claim7.holds Tryd.pinned (.plain (OpenSpec.upto fnExactGoesToSpec)) fnExactGoesToUptoCard

/-- THE SECOND FORM's CARD OF 'laws.FnExactFrogTo'. -/
def fnExactFrogToUptoCard : Claim7 := { stood := { row := fnExactFrogToUptoRow, standIns := [], harness := (true, "7e8bea4a215dfbdb6e98c591b116c70cb109fe848c5f42ebdf3c0f065e8f3486"), looks := true }, kinds := [], alts := [], laidByText := true, laidKinds := [.sentinel, .sentinel, .sentinel, .sentinel, .sentinel, .sentinel], laidTests := true, laidLooks := .later }
def FnExactFrogToUptoCardSaid : Prop := Claim7.holds Tryd.pinned (.plain (OpenSpec.upto fnExactFrogToSpec)) fnExactFrogToUptoCard

/-- THE SECOND FORM's CARD OF 'laws.FnExactRepeatRow'. -/
def fnExactRepeatRowUptoCard : Claim7 := { stood := { row := fnExactRepeatRowUptoRow, standIns := [], harness := (true, "7e8bea4a215dfbdb6e98c591b116c70cb109fe848c5f42ebdf3c0f065e8f3486"), looks := true }, kinds := [], alts := [], laidByText := true, laidKinds := [.sentinel, .sentinel, .sentinel, .sentinel, .sentinel, .sentinel], laidTests := true, laidLooks := .later }
def FnExactRepeatRowUptoCardSaid : Prop := Claim7.holds Tryd.pinned (.plain (OpenSpec.upto fnExactRepeatRowSpec)) fnExactRepeatRowUptoCard

/-- THE SECOND FORM's CARD OF 'laws.FnExactMirrorFabric'. -/
def fnExactMirrorFabricUptoCard : Claim7 := { stood := { row := fnExactMirrorFabricUptoRow, standIns := [], harness := (true, "7e8bea4a215dfbdb6e98c591b116c70cb109fe848c5f42ebdf3c0f065e8f3486"), looks := true }, kinds := [], alts := [], laidByText := true, laidKinds := [.sentinel, .sentinel, .sentinel, .sentinel, .sentinel, .sentinel], laidTests := true, laidLooks := .later }
def FnExactMirrorFabricUptoCardSaid : Prop := Claim7.holds Tryd.pinned (.plain (OpenSpec.upto fnExactMirrorFabricSpec)) fnExactMirrorFabricUptoCard
end Rows
end Go.Proofs.YtilbadnnmhcdoaaDoor
