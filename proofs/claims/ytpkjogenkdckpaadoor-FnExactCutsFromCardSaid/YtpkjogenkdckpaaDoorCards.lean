/-
  DERIVED. GIVEN WITH THE SEED: THE CARDS: each row of YtpkjogenkdckpaaDoorRows.lean that lists a variable, with what it lists TIED to the program's text (the seventh form; the later family's looks); each row that meets fmt, with fmt's text TOLD by the authors' own Lean function (tested against real Go, not proved from fmt's source: count such statements apart). THE CARD IS WHAT COUNTS. Prove the row's statement (the work); the ties are given (YtpkjogenkdckpaaDoorTie.lean); close each card by the builder's one call (the guide's Derived/Test/ToyasCard.lean, 'card_holds'). Laid BY PROGRAM, IN A SANDBOX (cutbox-door.mjs). By AI agents, Wed Nov 11 2026. No macro, syntax, notation, axiom, sorry.
-/
import Derived.Test.YtpkjogenkdckpaaDoorRows
import GoSem.ClaimSeven
namespace Go.Proofs.YtpkjogenkdckpaaDoor
namespace Rows

/-- THE TIED CARD OF 'laws.FnExactSpinHeap'. -/
def fnExactSpinHeapCard : Claim7 := { stood := { row := fnExactSpinHeapRow, standIns := [], harness := (true, "46819fac459d2cd68c5ad21fb75120f3b3f8135b60164a78a970537e4ee76a3b"), looks := true }, kinds := [], alts := [], laidByText := true, laidKinds := [.sentinel, .sentinel, .sentinel, .sentinel, .sentinel, .sentinel], laidTests := true, laidLooks := .later }
def FnExactSpinHeapCardSaid : Prop := Claim7.holds Tryd.pinned (.plain (OpenSpec.ofChange fnExactSpinHeapSpec)) fnExactSpinHeapCard

/-- THE TIED CARD OF 'laws.FnExactCutYarn'. -/
def fnExactCutYarnCard : Claim7 := { stood := { row := fnExactCutYarnRow, standIns := [], harness := (true, "46819fac459d2cd68c5ad21fb75120f3b3f8135b60164a78a970537e4ee76a3b"), looks := true }, kinds := [], alts := [], laidByText := true, laidKinds := [.sentinel, .sentinel, .sentinel, .sentinel, .sentinel, .sentinel], laidTests := true, laidLooks := .later }
def FnExactCutYarnCardSaid : Prop := Claim7.holds Tryd.pinned (.plain (OpenSpec.ofChange fnExactCutYarnSpec)) fnExactCutYarnCard

/-- THE TIED CARD OF 'laws.FnExactJoinYarns'. -/
def fnExactJoinYarnsCard : Claim7 := { stood := { row := fnExactJoinYarnsRow, standIns := [], harness := (true, "46819fac459d2cd68c5ad21fb75120f3b3f8135b60164a78a970537e4ee76a3b"), looks := true }, kinds := [], alts := [], laidByText := true, laidKinds := [.sentinel, .sentinel, .sentinel, .sentinel, .sentinel, .sentinel], laidTests := true, laidLooks := .later }
def FnExactJoinYarnsCardSaid : Prop := Claim7.holds Tryd.pinned (.plain (OpenSpec.ofChange fnExactJoinYarnsSpec)) fnExactJoinYarnsCard

/-- THE TIED CARD OF 'laws.FnExactPlyLong'. -/
def fnExactPlyLongCard : Claim7 := { stood := { row := fnExactPlyLongRow, standIns := [], harness := (true, "46819fac459d2cd68c5ad21fb75120f3b3f8135b60164a78a970537e4ee76a3b"), looks := true }, kinds := [], alts := [], laidByText := true, laidKinds := [.sentinel, .sentinel, .sentinel, .sentinel, .sentinel, .sentinel], laidTests := true, laidLooks := .later }
def FnExactPlyLongCardSaid : Prop := Claim7.holds Tryd.pinned (.plain (OpenSpec.ofChange fnExactPlyLongSpec)) fnExactPlyLongCard

/-- THE TIED CARD OF 'laws.FnExactRestOf'. -/
def fnExactRestOfCard : Claim7 := { stood := { row := fnExactRestOfRow, standIns := [], harness := (true, "46819fac459d2cd68c5ad21fb75120f3b3f8135b60164a78a970537e4ee76a3b"), looks := true }, kinds := [], alts := [], laidByText := true, laidKinds := [.sentinel, .sentinel, .sentinel, .sentinel, .sentinel, .sentinel], laidTests := true, laidLooks := .later }
def FnExactRestOfCardSaid : Prop := Claim7.holds Tryd.pinned (.plain (OpenSpec.ofChange fnExactRestOfSpec)) fnExactRestOfCard

/-- THE TIED CARD OF 'laws.FnExactWeakestOf'. -/
def fnExactWeakestOfCard : Claim7 := { stood := { row := fnExactWeakestOfRow, standIns := [], harness := (true, "46819fac459d2cd68c5ad21fb75120f3b3f8135b60164a78a970537e4ee76a3b"), looks := true }, kinds := [], alts := [], laidByText := true, laidKinds := [.sentinel, .sentinel, .sentinel, .sentinel, .sentinel, .sentinel], laidTests := true, laidLooks := .later }
def FnExactWeakestOfCardSaid : Prop := Claim7.holds Tryd.pinned (.plain (OpenSpec.ofChange fnExactWeakestOfSpec)) fnExactWeakestOfCard

/-- THE TIED CARD OF 'laws.FnExactPlyYarns'. -/
def fnExactPlyYarnsCard : Claim7 := { stood := { row := fnExactPlyYarnsRow, standIns := [], harness := (true, "46819fac459d2cd68c5ad21fb75120f3b3f8135b60164a78a970537e4ee76a3b"), looks := true }, kinds := [], alts := [], laidByText := true, laidKinds := [.sentinel, .sentinel, .sentinel, .sentinel, .sentinel, .sentinel], laidTests := true, laidLooks := .later }
def FnExactPlyYarnsCardSaid : Prop := Claim7.holds Tryd.pinned (.plain (OpenSpec.ofChange fnExactPlyYarnsSpec)) fnExactPlyYarnsCard

/-- THE TIED CARD OF 'laws.FnExactCutsFrom'. -/
def fnExactCutsFromCard : Claim7 := { stood := { row := fnExactCutsFromRow, standIns := [], harness := (true, "46819fac459d2cd68c5ad21fb75120f3b3f8135b60164a78a970537e4ee76a3b"), looks := true }, kinds := [], alts := [], laidByText := true, laidKinds := [.sentinel, .sentinel, .sentinel, .sentinel, .sentinel, .sentinel], laidTests := true, laidLooks := .later }
def FnExactCutsFromCardSaid : Prop := Claim7.holds Tryd.pinned (.plain (OpenSpec.ofChange fnExactCutsFromSpec)) fnExactCutsFromCard

/-- THE SECOND FORM's CARD OF 'laws.FnExactSpinHeap'. -/
def fnExactSpinHeapUptoCard : Claim7 := { stood := { row := fnExactSpinHeapUptoRow, standIns := [], harness := (true, "46819fac459d2cd68c5ad21fb75120f3b3f8135b60164a78a970537e4ee76a3b"), looks := true }, kinds := [], alts := [], laidByText := true, laidKinds := [.sentinel, .sentinel, .sentinel, .sentinel, .sentinel, .sentinel], laidTests := true, laidLooks := .later }
def FnExactSpinHeapUptoCardSaid : Prop := Claim7.holds Tryd.pinned (.plain (OpenSpec.upto fnExactSpinHeapSpec)) fnExactSpinHeapUptoCard

/-- THE SECOND FORM's CARD OF 'laws.FnExactCutYarn'. -/
def fnExactCutYarnUptoCard : Claim7 := { stood := { row := fnExactCutYarnUptoRow, standIns := [], harness := (true, "46819fac459d2cd68c5ad21fb75120f3b3f8135b60164a78a970537e4ee76a3b"), looks := true }, kinds := [], alts := [], laidByText := true, laidKinds := [.sentinel, .sentinel, .sentinel, .sentinel, .sentinel, .sentinel], laidTests := true, laidLooks := .later }
def FnExactCutYarnUptoCardSaid : Prop := Claim7.holds Tryd.pinned (.plain (OpenSpec.upto fnExactCutYarnSpec)) fnExactCutYarnUptoCard

/-- THE SECOND FORM's CARD OF 'laws.FnExactJoinYarns'. -/
def fnExactJoinYarnsUptoCard : Claim7 := { stood := { row := fnExactJoinYarnsUptoRow, standIns := [], harness := (true, "46819fac459d2cd68c5ad21fb75120f3b3f8135b60164a78a970537e4ee76a3b"), looks := true }, kinds := [], alts := [], laidByText := true, laidKinds := [.sentinel, .sentinel, .sentinel, .sentinel, .sentinel, .sentinel], laidTests := true, laidLooks := .later }
def FnExactJoinYarnsUptoCardSaid : Prop := Claim7.holds Tryd.pinned (.plain (OpenSpec.upto fnExactJoinYarnsSpec)) fnExactJoinYarnsUptoCard

/-- THE SECOND FORM's CARD OF 'laws.FnExactPlyLong'. -/
def fnExactPlyLongUptoCard : Claim7 := { stood := { row := fnExactPlyLongUptoRow, standIns := [], harness := (true, "46819fac459d2cd68c5ad21fb75120f3b3f8135b60164a78a970537e4ee76a3b"), looks := true }, kinds := [], alts := [], laidByText := true, laidKinds := [.sentinel, .sentinel, .sentinel, .sentinel, .sentinel, .sentinel], laidTests := true, laidLooks := .later }
def FnExactPlyLongUptoCardSaid : Prop := Claim7.holds Tryd.pinned (.plain (OpenSpec.upto fnExactPlyLongSpec)) fnExactPlyLongUptoCard

/-- THE SECOND FORM's CARD OF 'laws.FnExactRestOf'. -/
def fnExactRestOfUptoCard : Claim7 := { stood := { row := fnExactRestOfUptoRow, standIns := [], harness := (true, "46819fac459d2cd68c5ad21fb75120f3b3f8135b60164a78a970537e4ee76a3b"), looks := true }, kinds := [], alts := [], laidByText := true, laidKinds := [.sentinel, .sentinel, .sentinel, .sentinel, .sentinel, .sentinel], laidTests := true, laidLooks := .later }
def FnExactRestOfUptoCardSaid : Prop := Claim7.holds Tryd.pinned (.plain (OpenSpec.upto fnExactRestOfSpec)) fnExactRestOfUptoCard

/-- THE SECOND FORM's CARD OF 'laws.FnExactWeakestOf'. -/
def fnExactWeakestOfUptoCard : Claim7 := { stood := { row := fnExactWeakestOfUptoRow, standIns := [], harness := (true, "46819fac459d2cd68c5ad21fb75120f3b3f8135b60164a78a970537e4ee76a3b"), looks := true }, kinds := [], alts := [], laidByText := true, laidKinds := [.sentinel, .sentinel, .sentinel, .sentinel, .sentinel, .sentinel], laidTests := true, laidLooks := .later }
def FnExactWeakestOfUptoCardSaid : Prop := Claim7.holds Tryd.pinned (.plain (OpenSpec.upto fnExactWeakestOfSpec)) fnExactWeakestOfUptoCard

/-- THE SECOND FORM's CARD OF 'laws.FnExactPlyYarns'. -/
def fnExactPlyYarnsUptoCard : Claim7 := { stood := { row := fnExactPlyYarnsUptoRow, standIns := [], harness := (true, "46819fac459d2cd68c5ad21fb75120f3b3f8135b60164a78a970537e4ee76a3b"), looks := true }, kinds := [], alts := [], laidByText := true, laidKinds := [.sentinel, .sentinel, .sentinel, .sentinel, .sentinel, .sentinel], laidTests := true, laidLooks := .later }
def FnExactPlyYarnsUptoCardSaid : Prop := Claim7.holds Tryd.pinned (.plain (OpenSpec.upto fnExactPlyYarnsSpec)) fnExactPlyYarnsUptoCard

/-- THE SECOND FORM's CARD OF 'laws.FnExactCutsFrom'. -/
def fnExactCutsFromUptoCard : Claim7 := { stood := { row := fnExactCutsFromUptoRow, standIns := [], harness := (true, "46819fac459d2cd68c5ad21fb75120f3b3f8135b60164a78a970537e4ee76a3b"), looks := true }, kinds := [], alts := [], laidByText := true, laidKinds := [.sentinel, .sentinel, .sentinel, .sentinel, .sentinel, .sentinel], laidTests := true, laidLooks := .later }
def FnExactCutsFromUptoCardSaid : Prop := Claim7.holds Tryd.pinned (.plain (OpenSpec.upto fnExactCutsFromSpec)) fnExactCutsFromUptoCard
end Rows
end Go.Proofs.YtpkjogenkdckpaaDoor
