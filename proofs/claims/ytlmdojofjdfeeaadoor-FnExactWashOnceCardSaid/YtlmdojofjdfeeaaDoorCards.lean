/-
  DERIVED. GIVEN WITH THE SEED: THE CARDS: each row of YtlmdojofjdfeeaaDoorRows.lean that lists a variable, with what it lists TIED to the program's text (the seventh form; the later family's looks); each row that meets fmt, with fmt's text TOLD by the authors' own Lean function (tested against real Go, not proved from fmt's source: count such statements apart). THE CARD IS WHAT COUNTS. Prove the row's statement (the work); the ties are given (YtlmdojofjdfeeaaDoorTie.lean); close each card by the builder's one call (the guide's Derived/Test/ToyasCard.lean, 'card_holds'). Laid BY PROGRAM, IN A SANDBOX (cutbox-door.mjs). By AI agents, Wed Nov 11 2026. No macro, syntax, notation, axiom, sorry.
-/
import Derived.Test.YtlmdojofjdfeeaaDoorRows
import GoSem.ClaimSeven
namespace Go.Proofs.YtlmdojofjdfeeaaDoor
namespace Rows

/-- THE TIED CARD OF 'laws.FnExactValidCloth'. -/
def fnExactValidClothCard : Claim7 := { stood := { row := fnExactValidClothRow, standIns := [], harness := (true, "187fbd61d8e656e5368548316c2cab2547ece3888b26025c48632812adbc6d33"), looks := true }, kinds := [], alts := [], laidByText := true, laidKinds := [.sentinel, .sentinel, .sentinel], laidTests := true, laidLooks := .later }
def FnExactValidClothCardSaid : Prop := Claim7.holds Tryd.pinned (.plain (OpenSpec.ofChange fnExactValidClothSpec)) fnExactValidClothCard

/-- THE TIED CARD OF 'laws.FnExactValidProgram'. -/
def fnExactValidProgramCard : Claim7 := { stood := { row := fnExactValidProgramRow, standIns := [], harness := (true, "187fbd61d8e656e5368548316c2cab2547ece3888b26025c48632812adbc6d33"), looks := true }, kinds := [], alts := [], laidByText := true, laidKinds := [.sentinel, .sentinel, .sentinel], laidTests := true, laidLooks := .later }
def FnExactValidProgramCardSaid : Prop := Claim7.holds Tryd.pinned (.plain (OpenSpec.ofChange fnExactValidProgramSpec)) fnExactValidProgramCard

/-- THE TIED CARD OF 'laws.FnExactFeltsBy'. -/
def fnExactFeltsByCard : Claim7 := { stood := { row := fnExactFeltsByRow, standIns := [], harness := (true, "187fbd61d8e656e5368548316c2cab2547ece3888b26025c48632812adbc6d33"), looks := true }, kinds := [], alts := [], laidByText := true, laidKinds := [.handle, .sentinel, .sentinel, .sentinel, .sentinel, .sentinel, .sentinel], laidTests := true, laidLooks := .later }
def FnExactFeltsByCardSaid : Prop := Claim7.holds Tryd.pinned (.plain (OpenSpec.ofChange fnExactFeltsBySpec)) fnExactFeltsByCard

/-- THE TIED CARD OF 'laws.FnExactWashOnce'. -/
def fnExactWashOnceCard : Claim7 := { stood := { row := fnExactWashOnceRow, standIns := [], harness := (true, "187fbd61d8e656e5368548316c2cab2547ece3888b26025c48632812adbc6d33"), looks := true }, kinds := [], alts := [], laidByText := true, laidKinds := [.handle, .sentinel, .sentinel, .sentinel, .sentinel, .sentinel, .sentinel], laidTests := true, laidLooks := .later }
def FnExactWashOnceCardSaid : Prop := Claim7.holds Tryd.pinned (.plain (OpenSpec.ofChange fnExactWashOnceSpec)) fnExactWashOnceCard

/-- THE TIED CARD OF 'laws.FnExactShrunkBy'. -/
def fnExactShrunkByCard : Claim7 := { stood := { row := fnExactShrunkByRow, standIns := [], harness := (true, "187fbd61d8e656e5368548316c2cab2547ece3888b26025c48632812adbc6d33"), looks := true }, kinds := [], alts := [], laidByText := true, laidKinds := [.sentinel, .sentinel, .sentinel], laidTests := true, laidLooks := .later }
def FnExactShrunkByCardSaid : Prop := Claim7.holds Tryd.pinned (.plain (OpenSpec.ofChange fnExactShrunkBySpec)) fnExactShrunkByCard

/-- THE TIED CARD OF 'laws.FnExactWashAll'. -/
def fnExactWashAllCard : Claim7 := { stood := { row := fnExactWashAllRow, standIns := [], harness := (true, "187fbd61d8e656e5368548316c2cab2547ece3888b26025c48632812adbc6d33"), looks := true }, kinds := [], alts := [], laidByText := true, laidKinds := [.handle, .sentinel, .sentinel, .sentinel, .sentinel, .sentinel, .sentinel], laidTests := true, laidLooks := .later }
def FnExactWashAllCardSaid : Prop := Claim7.holds Tryd.pinned (.plain (OpenSpec.ofChange fnExactWashAllSpec)) fnExactWashAllCard

/-- THE TIED CARD OF 'laws.FnExactGentleOnes'. -/
def fnExactGentleOnesCard : Claim7 := { stood := { row := fnExactGentleOnesRow, standIns := [], harness := (true, "187fbd61d8e656e5368548316c2cab2547ece3888b26025c48632812adbc6d33"), looks := true }, kinds := [], alts := [], laidByText := true, laidKinds := [.handle, .sentinel, .sentinel, .sentinel, .sentinel, .sentinel, .sentinel], laidTests := true, laidLooks := .later }
def FnExactGentleOnesCardSaid : Prop := Claim7.holds Tryd.pinned (.plain (OpenSpec.ofChange fnExactGentleOnesSpec)) fnExactGentleOnesCard

/-- THE SECOND FORM's CARD OF 'laws.FnExactValidCloth'. -/
def fnExactValidClothUptoCard : Claim7 := { stood := { row := fnExactValidClothUptoRow, standIns := [], harness := (true, "187fbd61d8e656e5368548316c2cab2547ece3888b26025c48632812adbc6d33"), looks := true }, kinds := [], alts := [], laidByText := true, laidKinds := [.sentinel, .sentinel, .sentinel], laidTests := true, laidLooks := .later }
def FnExactValidClothUptoCardSaid : Prop := Claim7.holds Tryd.pinned (.plain (OpenSpec.upto fnExactValidClothSpec)) fnExactValidClothUptoCard

/-- THE SECOND FORM's CARD OF 'laws.FnExactValidProgram'. -/
def fnExactValidProgramUptoCard : Claim7 := { stood := { row := fnExactValidProgramUptoRow, standIns := [], harness := (true, "187fbd61d8e656e5368548316c2cab2547ece3888b26025c48632812adbc6d33"), looks := true }, kinds := [], alts := [], laidByText := true, laidKinds := [.sentinel, .sentinel, .sentinel], laidTests := true, laidLooks := .later }
def FnExactValidProgramUptoCardSaid : Prop := Claim7.holds Tryd.pinned (.plain (OpenSpec.upto fnExactValidProgramSpec)) fnExactValidProgramUptoCard

/-- THE SECOND FORM's CARD OF 'laws.FnExactFeltsBy'. -/
def fnExactFeltsByUptoCard : Claim7 := { stood := { row := fnExactFeltsByUptoRow, standIns := [], harness := (true, "187fbd61d8e656e5368548316c2cab2547ece3888b26025c48632812adbc6d33"), looks := true }, kinds := [], alts := [], laidByText := true, laidKinds := [.handle, .sentinel, .sentinel, .sentinel, .sentinel, .sentinel, .sentinel], laidTests := true, laidLooks := .later }
def FnExactFeltsByUptoCardSaid : Prop := Claim7.holds Tryd.pinned (.plain (OpenSpec.upto fnExactFeltsBySpec)) fnExactFeltsByUptoCard

/-- THE SECOND FORM's CARD OF 'laws.FnExactWashOnce'. -/
def fnExactWashOnceUptoCard : Claim7 := { stood := { row := fnExactWashOnceUptoRow, standIns := [], harness := (true, "187fbd61d8e656e5368548316c2cab2547ece3888b26025c48632812adbc6d33"), looks := true }, kinds := [], alts := [], laidByText := true, laidKinds := [.handle, .sentinel, .sentinel, .sentinel, .sentinel, .sentinel, .sentinel], laidTests := true, laidLooks := .later }
def FnExactWashOnceUptoCardSaid : Prop := Claim7.holds Tryd.pinned (.plain (OpenSpec.upto fnExactWashOnceSpec)) fnExactWashOnceUptoCard

/-- THE SECOND FORM's CARD OF 'laws.FnExactShrunkBy'. -/
def fnExactShrunkByUptoCard : Claim7 := { stood := { row := fnExactShrunkByUptoRow, standIns := [], harness := (true, "187fbd61d8e656e5368548316c2cab2547ece3888b26025c48632812adbc6d33"), looks := true }, kinds := [], alts := [], laidByText := true, laidKinds := [.sentinel, .sentinel, .sentinel], laidTests := true, laidLooks := .later }
def FnExactShrunkByUptoCardSaid : Prop := Claim7.holds Tryd.pinned (.plain (OpenSpec.upto fnExactShrunkBySpec)) fnExactShrunkByUptoCard

/-- THE SECOND FORM's CARD OF 'laws.FnExactWashAll'. -/
def fnExactWashAllUptoCard : Claim7 := { stood := { row := fnExactWashAllUptoRow, standIns := [], harness := (true, "187fbd61d8e656e5368548316c2cab2547ece3888b26025c48632812adbc6d33"), looks := true }, kinds := [], alts := [], laidByText := true, laidKinds := [.handle, .sentinel, .sentinel, .sentinel, .sentinel, .sentinel, .sentinel], laidTests := true, laidLooks := .later }
def FnExactWashAllUptoCardSaid : Prop := Claim7.holds Tryd.pinned (.plain (OpenSpec.upto fnExactWashAllSpec)) fnExactWashAllUptoCard

/-- THE SECOND FORM's CARD OF 'laws.FnExactGentleOnes'. -/
def fnExactGentleOnesUptoCard : Claim7 := { stood := { row := fnExactGentleOnesUptoRow, standIns := [], harness := (true, "187fbd61d8e656e5368548316c2cab2547ece3888b26025c48632812adbc6d33"), looks := true }, kinds := [], alts := [], laidByText := true, laidKinds := [.handle, .sentinel, .sentinel, .sentinel, .sentinel, .sentinel, .sentinel], laidTests := true, laidLooks := .later }
def FnExactGentleOnesUptoCardSaid : Prop := Claim7.holds Tryd.pinned (.plain (OpenSpec.upto fnExactGentleOnesSpec)) fnExactGentleOnesUptoCard
end Rows
end Go.Proofs.YtlmdojofjdfeeaaDoor
