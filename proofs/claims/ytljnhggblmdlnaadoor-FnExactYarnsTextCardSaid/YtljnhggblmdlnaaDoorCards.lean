/-
  DERIVED. GIVEN WITH THE SEED: THE CARDS: each row of YtljnhggblmdlnaaDoorRows.lean that lists a variable, with what it lists TIED to the program's text (the seventh form; the later family's looks); each row that meets fmt, with fmt's text TOLD by the authors' own Lean function (tested against real Go, not proved from fmt's source: count such statements apart). THE CARD IS WHAT COUNTS. Prove the row's statement (the work); the ties are given (YtljnhggblmdlnaaDoorTie.lean); close each card by the builder's one call (the guide's Derived/Test/ToyasCard.lean, 'card_holds'). Laid BY PROGRAM, IN A SANDBOX (cutbox-door.mjs). By AI agents, Wed Nov 11 2026. No macro, syntax, notation, axiom, sorry.
-/
import Derived.Test.YtljnhggblmdlnaaDoorRows
import GoSem.ClaimSeven
namespace Go.Proofs.YtljnhggblmdlnaaDoor
namespace Rows

/-- THE TIED CARD OF 'laws.FnExactWebText'. -/
def fnExactWebTextCard : Claim7 := { stood := { row := fnExactWebTextRow, standIns := [], harness := (true, "fada578c698f2ddcd51e71518122e1c6f715a117614fc7c4dee5506e950f725d"), looks := true }, kinds := [], alts := [], laidByText := true, laidKinds := [.data, .data, .data], laidTests := true, laidLooks := .later }
def FnExactWebTextCardSaid : Prop := Claim7.holds Tryd.pinned (.plain (OpenSpec.ofChange fnExactWebTextSpec)) fnExactWebTextCard

/-- THE TIED CARD OF 'laws.FnExactReadWeb'. -/
def fnExactReadWebCard : Claim7 := { stood := { row := fnExactReadWebRow, standIns := [], harness := (true, "fada578c698f2ddcd51e71518122e1c6f715a117614fc7c4dee5506e950f725d"), looks := true }, kinds := [], alts := [], laidByText := true, laidKinds := [.data, .data, .data, .data, .sentinel, .sentinel, .pinned], laidTests := true, laidLooks := .later }
def FnExactReadWebCardSaid : Prop := Claim7.holds Tryd.pinned (.plain (OpenSpec.ofChange fnExactReadWebSpec)) fnExactReadWebCard

/-- THE TIED CARD OF 'laws.FnExactYarnsText'. -/
def fnExactYarnsTextCard : Claim7 := { stood := { row := fnExactYarnsTextRow, standIns := [], harness := (true, "fada578c698f2ddcd51e71518122e1c6f715a117614fc7c4dee5506e950f725d"), looks := true }, kinds := [], alts := [], laidByText := true, laidKinds := [.data, .data, .data, .sentinel, .sentinel, .sentinel], laidTests := true, laidLooks := .later }
def FnExactYarnsTextCardSaid : Prop := Claim7.holds Tryd.pinned (.plain (OpenSpec.ofChange fnExactYarnsTextSpec)) fnExactYarnsTextCard

/-- THE SECOND FORM's CARD OF 'laws.FnExactWebText'. -/
def fnExactWebTextUptoCard : Claim7 := { stood := { row := fnExactWebTextUptoRow, standIns := [], harness := (true, "fada578c698f2ddcd51e71518122e1c6f715a117614fc7c4dee5506e950f725d"), looks := true }, kinds := [], alts := [], laidByText := true, laidKinds := [.data, .data, .data], laidTests := true, laidLooks := .later }
def FnExactWebTextUptoCardSaid : Prop := Claim7.holds Tryd.pinned (.plain (OpenSpec.upto fnExactWebTextSpec)) fnExactWebTextUptoCard

/-- THE SECOND FORM's CARD OF 'laws.FnExactReadWeb'. -/
def fnExactReadWebUptoCard : Claim7 := { stood := { row := fnExactReadWebUptoRow, standIns := [], harness := (true, "fada578c698f2ddcd51e71518122e1c6f715a117614fc7c4dee5506e950f725d"), looks := true }, kinds := [], alts := [], laidByText := true, laidKinds := [.data, .data, .data, .data, .sentinel, .sentinel, .pinned], laidTests := true, laidLooks := .later }
def FnExactReadWebUptoCardSaid : Prop := Claim7.holds Tryd.pinned (.plain (OpenSpec.upto fnExactReadWebSpec)) fnExactReadWebUptoCard

/-- THE SECOND FORM's CARD OF 'laws.FnExactYarnsText'. -/
def fnExactYarnsTextUptoCard : Claim7 := { stood := { row := fnExactYarnsTextUptoRow, standIns := [], harness := (true, "fada578c698f2ddcd51e71518122e1c6f715a117614fc7c4dee5506e950f725d"), looks := true }, kinds := [], alts := [], laidByText := true, laidKinds := [.data, .data, .data, .sentinel, .sentinel, .sentinel], laidTests := true, laidLooks := .later }
def FnExactYarnsTextUptoCardSaid : Prop := Claim7.holds Tryd.pinned (.plain (OpenSpec.upto fnExactYarnsTextSpec)) fnExactYarnsTextUptoCard
end Rows
end Go.Proofs.YtljnhggblmdlnaaDoor
