/-
  No cell of these rows narrows 'for every input' (looked for: loops, veiled, ifaces, maps, wideKeys, modest, calm, conditions, laid).
  DERIVED. THE GIVEN ROWS OF THIS SEAT. 4 by the template 'for every input the law returns true; each argument reads behind the call as it read before'; 0 by the template 'total and deterministic' (their statements: YtibkocbfcdddfaaTotals.lean).
  GIVEN WITH THE SEED: the statements are not yours to turn. If you find one false, say at which input.
  Laid BY PROGRAM, IN A SANDBOX (cutbox-rows.mjs): the forced cells as the released guide's own fill.sh prints them over the translation bd5e3f782831489e… (all of the seat's roots in one cut). By AI agents, Wed Nov 11 2026. No macro, syntax, notation, axiom, sorry.
-/
import Derived.Test.YtibkocbfcdddfaaChecked
import GoSem.Claim
import GoSem.ClaimJoined
import GoSem.ClaimMapViews
import Derived.JoinedTies
import Derived.KernelRfl
namespace Go.Proofs.Ytibkocbfcdddfaa
/- THE CELL 'sum', in the pinned program and in every row, IS THE sha256 OF THE DUMP (.gsa) THAT YtibkocbfcdddfaaProg.lean LOADS. Nothing in Lean hashes anything: it is a label: what it is worth is what the hold of that sum in a sandbox is worth. -/
noncomputable def Try.pinned : Pinned := { name := "ytibkocbfcdddfaa", sum := "bd5e3f782831489ea9ce586c6056dffc9568e848e98312fb6b25e8075ee8a014", checked := Try.checked }
namespace Rows
def none {H : Type} : Left H := { results := [], args := [] }

/-- 'laws.FnExactValidStrands': WHATEVER THE INPUT: true; the input reads as it did. -/
def fnExactValidStrandsSpec : ChangeSpec := { name := "fnExactValidStrands", fn := fun _ => fun
  | [d] => { results := [.lit (.bool true)], args := [d] }
  | _ => none }
def fnExactValidStrandsRow : OpenClaim := { program := "ytibkocbfcdddfaa", sum := "bd5e3f782831489ea9ce586c6056dffc9568e848e98312fb6b25e8075ee8a014", func := "loop.example/g01384/laws.FnExactValidStrands", spec := "fnExactValidStrands", apart := false }
def FnExactValidStrandsSaid : Prop := fnExactValidStrandsRow.holds Try.pinned (OpenSpec.ofChange fnExactValidStrandsSpec)

/-- ITS FALSE NEIGHBOUR: 'it returns false'. Refute it at one input. -/
def fnExactValidStrandsWrong : ChangeSpec := { name := "fnExactValidStrands", fn := fun _ => fun
  | [d] => { results := [.lit (.bool false)], args := [d] }
  | _ => none }
def FnExactValidStrandsWrongFalsely : Prop := fnExactValidStrandsRow.holds Try.pinned (OpenSpec.ofChange fnExactValidStrandsWrong)

/-- 'laws.FnExactValidMeets': WHATEVER THE INPUT: true; the input reads as it did. -/
def fnExactValidMeetsSpec : ChangeSpec := { name := "fnExactValidMeets", fn := fun _ => fun
  | [d] => { results := [.lit (.bool true)], args := [d] }
  | _ => none }
def fnExactValidMeetsRow : OpenClaim := { program := "ytibkocbfcdddfaa", sum := "bd5e3f782831489ea9ce586c6056dffc9568e848e98312fb6b25e8075ee8a014", func := "loop.example/g01384/laws.FnExactValidMeets", spec := "fnExactValidMeets", apart := false }
def FnExactValidMeetsSaid : Prop := fnExactValidMeetsRow.holds Try.pinned (OpenSpec.ofChange fnExactValidMeetsSpec)

/-- ITS FALSE NEIGHBOUR: 'it returns false'. Refute it at one input. -/
def fnExactValidMeetsWrong : ChangeSpec := { name := "fnExactValidMeets", fn := fun _ => fun
  | [d] => { results := [.lit (.bool false)], args := [d] }
  | _ => none }
def FnExactValidMeetsWrongFalsely : Prop := fnExactValidMeetsRow.holds Try.pinned (OpenSpec.ofChange fnExactValidMeetsWrong)

/-- 'laws.FnExactMayWind': WHATEVER THE INPUT: true; the input reads as it did. -/
def fnExactMayWindSpec : ChangeSpec := { name := "fnExactMayWind", fn := fun _ => fun
  | [d1, d2, d3] => { results := [.lit (.bool true)], args := [d1, d2, d3] }
  | _ => none }
def fnExactMayWindRow : OpenClaim := { program := "ytibkocbfcdddfaa", sum := "bd5e3f782831489ea9ce586c6056dffc9568e848e98312fb6b25e8075ee8a014", func := "loop.example/g01384/laws.FnExactMayWind", spec := "fnExactMayWind", apart := false }
def FnExactMayWindSaid : Prop := fnExactMayWindRow.holds Try.pinned (OpenSpec.ofChange fnExactMayWindSpec)

/-- ITS FALSE NEIGHBOUR: 'it returns false'. Refute it at one input. -/
def fnExactMayWindWrong : ChangeSpec := { name := "fnExactMayWind", fn := fun _ => fun
  | [d1, d2, d3] => { results := [.lit (.bool false)], args := [d1, d2, d3] }
  | _ => none }
def FnExactMayWindWrongFalsely : Prop := fnExactMayWindRow.holds Try.pinned (OpenSpec.ofChange fnExactMayWindWrong)

/-- 'laws.FnExactLotsApart': WHATEVER THE INPUT: true; the input reads as it did. -/
def fnExactLotsApartSpec : ChangeSpec := { name := "fnExactLotsApart", fn := fun _ => fun
  | [d1, d2] => { results := [.lit (.bool true)], args := [d1, d2] }
  | _ => none }
def fnExactLotsApartRow : OpenClaim := { program := "ytibkocbfcdddfaa", sum := "bd5e3f782831489ea9ce586c6056dffc9568e848e98312fb6b25e8075ee8a014", func := "loop.example/g01384/laws.FnExactLotsApart", spec := "fnExactLotsApart", recurses := true, apart := false }
def FnExactLotsApartSaid : Prop := fnExactLotsApartRow.holds Try.pinned (OpenSpec.ofChange fnExactLotsApartSpec)

/-- ITS FALSE NEIGHBOUR: 'it returns false'. Refute it at one input. -/
def fnExactLotsApartWrong : ChangeSpec := { name := "fnExactLotsApart", fn := fun _ => fun
  | [d1, d2] => { results := [.lit (.bool false)], args := [d1, d2] }
  | _ => none }
def FnExactLotsApartWrongFalsely : Prop := fnExactLotsApartRow.holds Try.pinned (OpenSpec.ofChange fnExactLotsApartWrong)

/- THE SECOND FORM. 'bulk': how many values and letters a reading holds, each counted each time it is reached (what is shared counts as often as it is met; a slice's spare places count too). A statement '..UptoSaid' is the law's where the arguments, and the package variables that the reading takes, are together of bulk at most 1048576: NARROWER than '..Said'. Prove '..Said' where nothing that the law and all that it calls make is longer than what came in: it says more and counts as full. Else prove '..UptoSaid'. A law counts once. -/
mutual
def uptoBulk {H : Type} : DataW H → Nat
  | .lit (.string bytes) => bytes.length + 1
  | .lit _ => 1
  | .nil => 1
  | .ptr d => uptoBulk d + 1
  | .slice elems spare => uptoBulkAll elems + uptoBulkAll spare + 1
  | .agg parts => uptoBulkAll parts + 1
  | .iface _ d => uptoBulk d + 1
  | .map entries => uptoBulkEntries entries + 1
  | .held _ => 1
def uptoBulkAll {H : Type} : List (DataW H) → Nat
  | [] => 0
  | d :: r => uptoBulk d + uptoBulkAll r
def uptoBulkEntries {H : Type} : List (Lit × DataW H) → Nat
  | [] => 0
  | x :: r => uptoBulkEntry x + uptoBulkEntries r
def uptoBulkEntry {H : Type} : Lit × DataW H → Nat
  | (.string bytes, d) => bytes.length + uptoBulk d + 1
  | (_, d) => uptoBulk d + 1
 end
def uptoSmall : (H : Type) → List (DataW H) → Bool := fun _ ds => decide (uptoBulkAll ds ≤ 1048576)
def OpenSpec.upto (s : _root_.Go.ChangeSpec) : _root_.Go.OpenSpec := { _root_.Go.OpenSpec.ofChange s with cond := some uptoSmall }

/-- 'laws.FnExactValidStrands', WHERE WHAT IT READS IS OF BULK AT MOST 1048576: true; the input reads as it did. -/
def fnExactValidStrandsUptoRow : OpenClaim := { program := "ytibkocbfcdddfaa", sum := "bd5e3f782831489ea9ce586c6056dffc9568e848e98312fb6b25e8075ee8a014", func := "loop.example/g01384/laws.FnExactValidStrands", spec := "fnExactValidStrands", apart := false, narrowed := true }
def FnExactValidStrandsUptoSaid : Prop := fnExactValidStrandsUptoRow.holds Try.pinned (OpenSpec.upto fnExactValidStrandsSpec)

/-- 'laws.FnExactValidMeets', WHERE WHAT IT READS IS OF BULK AT MOST 1048576: true; the input reads as it did. -/
def fnExactValidMeetsUptoRow : OpenClaim := { program := "ytibkocbfcdddfaa", sum := "bd5e3f782831489ea9ce586c6056dffc9568e848e98312fb6b25e8075ee8a014", func := "loop.example/g01384/laws.FnExactValidMeets", spec := "fnExactValidMeets", apart := false, narrowed := true }
def FnExactValidMeetsUptoSaid : Prop := fnExactValidMeetsUptoRow.holds Try.pinned (OpenSpec.upto fnExactValidMeetsSpec)

/-- 'laws.FnExactMayWind', WHERE WHAT IT READS IS OF BULK AT MOST 1048576: true; the input reads as it did. -/
def fnExactMayWindUptoRow : OpenClaim := { program := "ytibkocbfcdddfaa", sum := "bd5e3f782831489ea9ce586c6056dffc9568e848e98312fb6b25e8075ee8a014", func := "loop.example/g01384/laws.FnExactMayWind", spec := "fnExactMayWind", apart := false, narrowed := true }
def FnExactMayWindUptoSaid : Prop := fnExactMayWindUptoRow.holds Try.pinned (OpenSpec.upto fnExactMayWindSpec)

/-- 'laws.FnExactLotsApart', WHERE WHAT IT READS IS OF BULK AT MOST 1048576: true; the input reads as it did. -/
def fnExactLotsApartUptoRow : OpenClaim := { program := "ytibkocbfcdddfaa", sum := "bd5e3f782831489ea9ce586c6056dffc9568e848e98312fb6b25e8075ee8a014", func := "loop.example/g01384/laws.FnExactLotsApart", spec := "fnExactLotsApart", recurses := true, apart := false, narrowed := true }
def FnExactLotsApartUptoSaid : Prop := fnExactLotsApartUptoRow.holds Try.pinned (OpenSpec.upto fnExactLotsApartSpec)

end Rows
end Go.Proofs.Ytibkocbfcdddfaa
