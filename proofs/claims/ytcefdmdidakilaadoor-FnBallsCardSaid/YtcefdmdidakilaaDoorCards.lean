/-
  DERIVED. GIVEN WITH THE SEED: THE CARDS: each row of YtcefdmdidakilaaDoorRows.lean that lists a variable, with what it lists TIED to the program's text (the seventh form; the later family's looks); each row that meets fmt, with fmt's text TOLD by the authors' own Lean function (tested against real Go, not proved from fmt's source: count such statements apart). THE CARD IS WHAT COUNTS. Prove the row's statement (the work); the ties are given (YtcefdmdidakilaaDoorTie.lean); close each card by the builder's one call (the guide's Derived/Test/ToyasCard.lean, 'card_holds'). Laid BY PROGRAM, IN A SANDBOX (cutbox-door.mjs). By AI agents, Wed Nov 11 2026. No macro, syntax, notation, axiom, sorry.
-/
import Derived.Test.YtcefdmdidakilaaDoorRows
import GoSem.ClaimSeven
namespace Go.Proofs.YtcefdmdidakilaaDoor
namespace Rows

/-- THE TIED CARD OF 'laws.FnBalls'. -/
def fnBallsCard : Claim7 := { stood := { row := fnBallsRow, standIns := [], harness := (true, "0ebcdd0902566ff23646ce04e668bf4f8453f8e5653248d02bd5dddc06807b96"), looks := true }, kinds := [], alts := [], laidByText := true, laidKinds := [.sentinel, .sentinel, .sentinel, .sentinel, .sentinel, .sentinel], laidTests := true, laidLooks := .later }
def FnBallsCardSaid : Prop := Claim7.holds Tryd.pinned (.plain (OpenSpec.ofChange fnBallsSpec)) fnBallsCard

/-- THE SECOND FORM's CARD OF 'laws.FnBalls'. -/
def fnBallsUptoCard : Claim7 := { stood := { row := fnBallsUptoRow, standIns := [], harness := (true, "0ebcdd0902566ff23646ce04e668bf4f8453f8e5653248d02bd5dddc06807b96"), looks := true }, kinds := [], alts := [], laidByText := true, laidKinds := [.sentinel, .sentinel, .sentinel, .sentinel, .sentinel, .sentinel], laidTests := true, laidLooks := .later }
def FnBallsUptoCardSaid : Prop := Claim7.holds Tryd.pinned (.plain (OpenSpec.upto fnBallsSpec)) fnBallsUptoCard
end Rows
end Go.Proofs.YtcefdmdidakilaaDoor
