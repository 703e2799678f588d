/-
  DERIVED. GIVEN WITH THE SEED: THE CARDS: each row of YtgkhpmpmhdopaaaDoorRows.lean that lists a variable, with what it lists TIED to the program's text (the seventh form; the later family's looks); each row that meets fmt, with fmt's text TOLD by the authors' own Lean function (tested against real Go, not proved from fmt's source: count such statements apart). THE CARD IS WHAT COUNTS. Prove the row's statement (the work); the ties are given (YtgkhpmpmhdopaaaDoorTie.lean); close each card by the builder's one call (the guide's Derived/Test/ToyasCard.lean, 'card_holds'). Laid BY PROGRAM, IN A SANDBOX (cutbox-door.mjs). By AI agents, Wed Nov 11 2026. No macro, syntax, notation, axiom, sorry.
-/
import Derived.Test.YtgkhpmpmhdopaaaDoorRows
import GoSem.ClaimSeven
namespace Go.Proofs.YtgkhpmpmhdopaaaDoor
namespace Rows

/-- THE TIED CARD OF 'laws.FnExactStrandsText'. -/
def fnExactStrandsTextCard : Claim7 := { stood := { row := fnExactStrandsTextRow, standIns := [], harness := (true, "f33b537b9096a8d31fd3b66f347e5304de8181d24f0c98196e30af1bcee1d6a3"), looks := false }, kinds := [], alts := [], laidByText := true, laidKinds := [.data, .data, .data], laidTests := true, laidLooks := .later }
def FnExactStrandsTextCardSaid : Prop := Claim7.holds Tryd.pinned (.plain (OpenSpec.ofChange fnExactStrandsTextSpec)) fnExactStrandsTextCard

/-- THE SECOND FORM's CARD OF 'laws.FnExactStrandsText'. -/
def fnExactStrandsTextUptoCard : Claim7 := { stood := { row := fnExactStrandsTextUptoRow, standIns := [], harness := (true, "f33b537b9096a8d31fd3b66f347e5304de8181d24f0c98196e30af1bcee1d6a3"), looks := false }, kinds := [], alts := [], laidByText := true, laidKinds := [.data, .data, .data], laidTests := true, laidLooks := .later }
def FnExactStrandsTextUptoCardSaid : Prop := Claim7.holds Tryd.pinned (.plain (OpenSpec.upto fnExactStrandsTextSpec)) fnExactStrandsTextUptoCard
end Rows
end Go.Proofs.YtgkhpmpmhdopaaaDoor
