/-
  DERIVED. GIVEN WITH THE SEED: THE CARDS: each row of YtcgcaghmpegehaaDoorRows.lean that lists a variable, with what it lists TIED to the program's text (the seventh form; the later family's looks); each row that meets fmt, with fmt's text TOLD by the authors' own Lean function (tested against real Go, not proved from fmt's source: count such statements apart). THE CARD IS WHAT COUNTS. Prove the row's statement (the work); the ties are given (YtcgcaghmpegehaaDoorTie.lean); close each card by the builder's one call (the guide's Derived/Test/ToyasCard.lean, 'card_holds'). Laid BY PROGRAM, IN A SANDBOX (cutbox-door.mjs). By AI agents, Wed Nov 11 2026. No macro, syntax, notation, axiom, sorry.
-/
import Derived.Test.YtcgcaghmpegehaaDoorRows
import GoSem.ClaimSeven
namespace Go.Proofs.YtcgcaghmpegehaaDoor
namespace Rows

/-- THE TIED CARD OF 'laws.FnExactFabricText'. -/
def fnExactFabricTextCard : Claim7 := { stood := { row := fnExactFabricTextRow, standIns := [], harness := (true, "53dd1f1bc82bf5b8755f4c5486e93d9228be6ba90e0baecea8bb70f26de9e592"), looks := true }, kinds := [], alts := [], laidByText := true, laidKinds := [.data, .data, .data, .sentinel, .sentinel, .sentinel, .sentinel, .sentinel, .sentinel], laidTests := true, laidLooks := .later }
def FnExactFabricTextCardSaid : Prop := Claim7.holds Tryd.pinned (.plain (OpenSpec.ofChange fnExactFabricTextSpec)) fnExactFabricTextCard

/-- THE SECOND FORM's CARD OF 'laws.FnExactFabricText'. -/
def fnExactFabricTextUptoCard : Claim7 := { stood := { row := fnExactFabricTextUptoRow, standIns := [], harness := (true, "53dd1f1bc82bf5b8755f4c5486e93d9228be6ba90e0baecea8bb70f26de9e592"), looks := true }, kinds := [], alts := [], laidByText := true, laidKinds := [.data, .data, .data, .sentinel, .sentinel, .sentinel, .sentinel, .sentinel, .sentinel], laidTests := true, laidLooks := .later }
def FnExactFabricTextUptoCardSaid : Prop := Claim7.holds Tryd.pinned (.plain (OpenSpec.upto fnExactFabricTextSpec)) fnExactFabricTextUptoCard
end Rows
end Go.Proofs.YtcgcaghmpegehaaDoor
