/-
  No cell of these rows narrows 'for every input' (looked for: loops, veiled, ifaces, maps, wideKeys, modest, calm, conditions, laid).
  DERIVED. THE GIVEN ROWS OF THIS SEAT. 11 by the template 'for every input the law returns true; each argument reads behind the call as it read before'; 0 by the template 'total and deterministic' (their statements: YthokpdhknohpoaaTotals.lean).
  GIVEN WITH THE SEED: the statements are not yours to turn. If you find one false, say at which input.
  Laid BY PROGRAM, IN A SANDBOX (cutbox-rows.mjs): the forced cells as the released guide's own fill.sh prints them over the translation f50f9b2aa0ed2b0b… (all of the seat's roots in one cut). By AI agents, Wed Nov 11 2026. No macro, syntax, notation, axiom, sorry.
-/
import Derived.Test.YthokpdhknohpoaaChecked
import GoSem.Claim
import GoSem.ClaimJoined
import GoSem.ClaimMapViews
import Derived.JoinedTies
import Derived.KernelRfl
namespace Go.Proofs.Ythokpdhknohpoaa
/- THE CELL 'sum', in the pinned program and in every row, IS THE sha256 OF THE DUMP (.gsa) THAT YthokpdhknohpoaaProg.lean LOADS. Nothing in Lean hashes anything: it is a label: what it is worth is what the hold of that sum in a sandbox is worth. -/
noncomputable def Try.pinned : Pinned := { name := "ythokpdhknohpoaa", sum := "f50f9b2aa0ed2b0bdd346f8d56487dfa4995eb99c6dcfe0d415435705396e69c", checked := Try.checked }
namespace Rows
def none {H : Type} : Left H := { results := [], args := [] }

/-- 'laws.FnExactMakeFraction': WHATEVER THE INPUT: true; the input reads as it did. -/
def fnExactMakeFractionSpec : ChangeSpec := { name := "fnExactMakeFraction", fn := fun _ => fun
  | [d1, d2] => { results := [.lit (.bool true)], args := [d1, d2] }
  | _ => none }
def fnExactMakeFractionRow : OpenClaim := { program := "ythokpdhknohpoaa", sum := "f50f9b2aa0ed2b0bdd346f8d56487dfa4995eb99c6dcfe0d415435705396e69c", func := "loop.example/g01384/laws.FnExactMakeFraction", spec := "fnExactMakeFraction", apart := false }
def FnExactMakeFractionSaid : Prop := fnExactMakeFractionRow.holds Try.pinned (OpenSpec.ofChange fnExactMakeFractionSpec)

/-- ITS FALSE NEIGHBOUR: 'it returns false'. Refute it at one input. -/
def fnExactMakeFractionWrong : ChangeSpec := { name := "fnExactMakeFraction", fn := fun _ => fun
  | [d1, d2] => { results := [.lit (.bool false)], args := [d1, d2] }
  | _ => none }
def FnExactMakeFractionWrongFalsely : Prop := fnExactMakeFractionRow.holds Try.pinned (OpenSpec.ofChange fnExactMakeFractionWrong)

/-- 'laws.FnExactCompareFractions': WHATEVER THE INPUT: true; the input reads as it did. -/
def fnExactCompareFractionsSpec : ChangeSpec := { name := "fnExactCompareFractions", fn := fun _ => fun
  | [d1, d2] => { results := [.lit (.bool true)], args := [d1, d2] }
  | _ => none }
def fnExactCompareFractionsRow : OpenClaim := { program := "ythokpdhknohpoaa", sum := "f50f9b2aa0ed2b0bdd346f8d56487dfa4995eb99c6dcfe0d415435705396e69c", func := "loop.example/g01384/laws.FnExactCompareFractions", spec := "fnExactCompareFractions", apart := false }
def FnExactCompareFractionsSaid : Prop := fnExactCompareFractionsRow.holds Try.pinned (OpenSpec.ofChange fnExactCompareFractionsSpec)

/-- ITS FALSE NEIGHBOUR: 'it returns false'. Refute it at one input. -/
def fnExactCompareFractionsWrong : ChangeSpec := { name := "fnExactCompareFractions", fn := fun _ => fun
  | [d1, d2] => { results := [.lit (.bool false)], args := [d1, d2] }
  | _ => none }
def FnExactCompareFractionsWrongFalsely : Prop := fnExactCompareFractionsRow.holds Try.pinned (OpenSpec.ofChange fnExactCompareFractionsWrong)

/-- 'laws.FnExactValidHeap': WHATEVER THE INPUT: true; the input reads as it did. -/
def fnExactValidHeapSpec : ChangeSpec := { name := "fnExactValidHeap", fn := fun _ => fun
  | [d] => { results := [.lit (.bool true)], args := [d] }
  | _ => none }
def fnExactValidHeapRow : OpenClaim := { program := "ythokpdhknohpoaa", sum := "f50f9b2aa0ed2b0bdd346f8d56487dfa4995eb99c6dcfe0d415435705396e69c", func := "loop.example/g01384/laws.FnExactValidHeap", spec := "fnExactValidHeap", apart := false }
def FnExactValidHeapSaid : Prop := fnExactValidHeapRow.holds Try.pinned (OpenSpec.ofChange fnExactValidHeapSpec)

/-- ITS FALSE NEIGHBOUR: 'it returns false'. Refute it at one input. -/
def fnExactValidHeapWrong : ChangeSpec := { name := "fnExactValidHeap", fn := fun _ => fun
  | [d] => { results := [.lit (.bool false)], args := [d] }
  | _ => none }
def FnExactValidHeapWrongFalsely : Prop := fnExactValidHeapRow.holds Try.pinned (OpenSpec.ofChange fnExactValidHeapWrong)

/-- 'laws.FnExactValidFleece': WHATEVER THE INPUT: true; the input reads as it did. -/
def fnExactValidFleeceSpec : ChangeSpec := { name := "fnExactValidFleece", fn := fun _ => fun
  | [d] => { results := [.lit (.bool true)], args := [d] }
  | _ => none }
def fnExactValidFleeceRow : OpenClaim := { program := "ythokpdhknohpoaa", sum := "f50f9b2aa0ed2b0bdd346f8d56487dfa4995eb99c6dcfe0d415435705396e69c", func := "loop.example/g01384/laws.FnExactValidFleece", spec := "fnExactValidFleece", apart := false }
def FnExactValidFleeceSaid : Prop := fnExactValidFleeceRow.holds Try.pinned (OpenSpec.ofChange fnExactValidFleeceSpec)

/-- ITS FALSE NEIGHBOUR: 'it returns false'. Refute it at one input. -/
def fnExactValidFleeceWrong : ChangeSpec := { name := "fnExactValidFleece", fn := fun _ => fun
  | [d] => { results := [.lit (.bool false)], args := [d] }
  | _ => none }
def FnExactValidFleeceWrongFalsely : Prop := fnExactValidFleeceRow.holds Try.pinned (OpenSpec.ofChange fnExactValidFleeceWrong)

/-- 'laws.FnExactGramsOf': WHATEVER THE INPUT: true; the input reads as it did. -/
def fnExactGramsOfSpec : ChangeSpec := { name := "fnExactGramsOf", fn := fun _ => fun
  | [d] => { results := [.lit (.bool true)], args := [d] }
  | _ => none }
def fnExactGramsOfRow : OpenClaim := { program := "ythokpdhknohpoaa", sum := "f50f9b2aa0ed2b0bdd346f8d56487dfa4995eb99c6dcfe0d415435705396e69c", func := "loop.example/g01384/laws.FnExactGramsOf", spec := "fnExactGramsOf", apart := false }
def FnExactGramsOfSaid : Prop := fnExactGramsOfRow.holds Try.pinned (OpenSpec.ofChange fnExactGramsOfSpec)

/-- ITS FALSE NEIGHBOUR: 'it returns false'. Refute it at one input. -/
def fnExactGramsOfWrong : ChangeSpec := { name := "fnExactGramsOf", fn := fun _ => fun
  | [d] => { results := [.lit (.bool false)], args := [d] }
  | _ => none }
def FnExactGramsOfWrongFalsely : Prop := fnExactGramsOfRow.holds Try.pinned (OpenSpec.ofChange fnExactGramsOfWrong)

/-- 'laws.FnExactMeanLength': WHATEVER THE INPUT: true; the input reads as it did. -/
def fnExactMeanLengthSpec : ChangeSpec := { name := "fnExactMeanLength", fn := fun _ => fun
  | [d] => { results := [.lit (.bool true)], args := [d] }
  | _ => none }
def fnExactMeanLengthRow : OpenClaim := { program := "ythokpdhknohpoaa", sum := "f50f9b2aa0ed2b0bdd346f8d56487dfa4995eb99c6dcfe0d415435705396e69c", func := "loop.example/g01384/laws.FnExactMeanLength", spec := "fnExactMeanLength", unfollowed := true, recurses := true, apart := false }
def FnExactMeanLengthSaid : Prop := fnExactMeanLengthRow.holds Try.pinned (OpenSpec.ofChange fnExactMeanLengthSpec)

/-- ITS FALSE NEIGHBOUR: 'it returns false'. Refute it at one input. -/
def fnExactMeanLengthWrong : ChangeSpec := { name := "fnExactMeanLength", fn := fun _ => fun
  | [d] => { results := [.lit (.bool false)], args := [d] }
  | _ => none }
def FnExactMeanLengthWrongFalsely : Prop := fnExactMeanLengthRow.holds Try.pinned (OpenSpec.ofChange fnExactMeanLengthWrong)

/-- 'laws.FnExactMedianLength': WHATEVER THE INPUT: true; the input reads as it did. -/
def fnExactMedianLengthSpec : ChangeSpec := { name := "fnExactMedianLength", fn := fun _ => fun
  | [d] => { results := [.lit (.bool true)], args := [d] }
  | _ => none }
def fnExactMedianLengthRow : OpenClaim := { program := "ythokpdhknohpoaa", sum := "f50f9b2aa0ed2b0bdd346f8d56487dfa4995eb99c6dcfe0d415435705396e69c", func := "loop.example/g01384/laws.FnExactMedianLength", spec := "fnExactMedianLength", unfollowed := true, recurses := true, apart := false }
def FnExactMedianLengthSaid : Prop := fnExactMedianLengthRow.holds Try.pinned (OpenSpec.ofChange fnExactMedianLengthSpec)

/-- ITS FALSE NEIGHBOUR: 'it returns false'. Refute it at one input. -/
def fnExactMedianLengthWrong : ChangeSpec := { name := "fnExactMedianLength", fn := fun _ => fun
  | [d] => { results := [.lit (.bool false)], args := [d] }
  | _ => none }
def FnExactMedianLengthWrongFalsely : Prop := fnExactMedianLengthRow.holds Try.pinned (OpenSpec.ofChange fnExactMedianLengthWrong)

/-- 'laws.FnExactSortOut': WHATEVER THE INPUT: true; the input reads as it did. -/
def fnExactSortOutSpec : ChangeSpec := { name := "fnExactSortOut", fn := fun _ => fun
  | [d1, d2, d3] => { results := [.lit (.bool true)], args := [d1, d2, d3] }
  | _ => none }
def fnExactSortOutRow : OpenClaim := { program := "ythokpdhknohpoaa", sum := "f50f9b2aa0ed2b0bdd346f8d56487dfa4995eb99c6dcfe0d415435705396e69c", func := "loop.example/g01384/laws.FnExactSortOut", spec := "fnExactSortOut", apart := false }
def FnExactSortOutSaid : Prop := fnExactSortOutRow.holds Try.pinned (OpenSpec.ofChange fnExactSortOutSpec)

/-- ITS FALSE NEIGHBOUR: 'it returns false'. Refute it at one input. -/
def fnExactSortOutWrong : ChangeSpec := { name := "fnExactSortOut", fn := fun _ => fun
  | [d1, d2, d3] => { results := [.lit (.bool false)], args := [d1, d2, d3] }
  | _ => none }
def FnExactSortOutWrongFalsely : Prop := fnExactSortOutRow.holds Try.pinned (OpenSpec.ofChange fnExactSortOutWrong)

/-- 'laws.FnExactTakeLongest': WHATEVER THE INPUT: true; the input reads as it did. -/
def fnExactTakeLongestSpec : ChangeSpec := { name := "fnExactTakeLongest", fn := fun _ => fun
  | [d1, d2] => { results := [.lit (.bool true)], args := [d1, d2] }
  | _ => none }
def fnExactTakeLongestRow : OpenClaim := { program := "ythokpdhknohpoaa", sum := "f50f9b2aa0ed2b0bdd346f8d56487dfa4995eb99c6dcfe0d415435705396e69c", func := "loop.example/g01384/laws.FnExactTakeLongest", spec := "fnExactTakeLongest", unfollowed := true, recurses := true, apart := false }
def FnExactTakeLongestSaid : Prop := fnExactTakeLongestRow.holds Try.pinned (OpenSpec.ofChange fnExactTakeLongestSpec)

/-- ITS FALSE NEIGHBOUR: 'it returns false'. Refute it at one input. -/
def fnExactTakeLongestWrong : ChangeSpec := { name := "fnExactTakeLongest", fn := fun _ => fun
  | [d1, d2] => { results := [.lit (.bool false)], args := [d1, d2] }
  | _ => none }
def FnExactTakeLongestWrongFalsely : Prop := fnExactTakeLongestRow.holds Try.pinned (OpenSpec.ofChange fnExactTakeLongestWrong)

/-- 'laws.FnExactJoinHeaps': WHATEVER THE INPUT: true; the input reads as it did. -/
def fnExactJoinHeapsSpec : ChangeSpec := { name := "fnExactJoinHeaps", fn := fun _ => fun
  | [d1, d2] => { results := [.lit (.bool true)], args := [d1, d2] }
  | _ => none }
def fnExactJoinHeapsRow : OpenClaim := { program := "ythokpdhknohpoaa", sum := "f50f9b2aa0ed2b0bdd346f8d56487dfa4995eb99c6dcfe0d415435705396e69c", func := "loop.example/g01384/laws.FnExactJoinHeaps", spec := "fnExactJoinHeaps", apart := false }
def FnExactJoinHeapsSaid : Prop := fnExactJoinHeapsRow.holds Try.pinned (OpenSpec.ofChange fnExactJoinHeapsSpec)

/-- ITS FALSE NEIGHBOUR: 'it returns false'. Refute it at one input. -/
def fnExactJoinHeapsWrong : ChangeSpec := { name := "fnExactJoinHeaps", fn := fun _ => fun
  | [d1, d2] => { results := [.lit (.bool false)], args := [d1, d2] }
  | _ => none }
def FnExactJoinHeapsWrongFalsely : Prop := fnExactJoinHeapsRow.holds Try.pinned (OpenSpec.ofChange fnExactJoinHeapsWrong)

/-- 'laws.FnExactPartHeap': WHATEVER THE INPUT: true; the input reads as it did. -/
def fnExactPartHeapSpec : ChangeSpec := { name := "fnExactPartHeap", fn := fun _ => fun
  | [d1, d2] => { results := [.lit (.bool true)], args := [d1, d2] }
  | _ => none }
def fnExactPartHeapRow : OpenClaim := { program := "ythokpdhknohpoaa", sum := "f50f9b2aa0ed2b0bdd346f8d56487dfa4995eb99c6dcfe0d415435705396e69c", func := "loop.example/g01384/laws.FnExactPartHeap", spec := "fnExactPartHeap", unfollowed := true, recurses := true, apart := false }
def FnExactPartHeapSaid : Prop := fnExactPartHeapRow.holds Try.pinned (OpenSpec.ofChange fnExactPartHeapSpec)

/-- ITS FALSE NEIGHBOUR: 'it returns false'. Refute it at one input. -/
def fnExactPartHeapWrong : ChangeSpec := { name := "fnExactPartHeap", fn := fun _ => fun
  | [d1, d2] => { results := [.lit (.bool false)], args := [d1, d2] }
  | _ => none }
def FnExactPartHeapWrongFalsely : Prop := fnExactPartHeapRow.holds Try.pinned (OpenSpec.ofChange fnExactPartHeapWrong)

/- THE SECOND FORM. 'bulk': how many values and letters a reading holds, each counted each time it is reached (what is shared counts as often as it is met; a slice's spare places count too). A statement '..UptoSaid' is the law's where the arguments, and the package variables that the reading takes, are together of bulk at most 1048576: NARROWER than '..Said'. Prove '..Said' where nothing that the law and all that it calls make is longer than what came in: it says more and counts as full. Else prove '..UptoSaid'. A law counts once. -/
mutual
def uptoBulk {H : Type} : DataW H → Nat
  | .lit (.string bytes) => bytes.length + 1
  | .lit _ => 1
  | .nil => 1
  | .ptr d => uptoBulk d + 1
  | .slice elems spare => uptoBulkAll elems + uptoBulkAll spare + 1
  | .agg parts => uptoBulkAll parts + 1
  | .iface _ d => uptoBulk d + 1
  | .map entries => uptoBulkEntries entries + 1
  | .held _ => 1
def uptoBulkAll {H : Type} : List (DataW H) → Nat
  | [] => 0
  | d :: r => uptoBulk d + uptoBulkAll r
def uptoBulkEntries {H : Type} : List (Lit × DataW H) → Nat
  | [] => 0
  | x :: r => uptoBulkEntry x + uptoBulkEntries r
def uptoBulkEntry {H : Type} : Lit × DataW H → Nat
  | (.string bytes, d) => bytes.length + uptoBulk d + 1
  | (_, d) => uptoBulk d + 1
 end
def uptoSmall : (H : Type) → List (DataW H) → Bool := fun _ ds => decide (uptoBulkAll ds ≤ 1048576)
def OpenSpec.upto (s : _root_.Go.ChangeSpec) : _root_.Go.OpenSpec := { _root_.Go.OpenSpec.ofChange s with cond := some uptoSmall }

/-- 'laws.FnExactMakeFraction', WHERE WHAT IT READS IS OF BULK AT MOST 1048576: true; the input reads as it did. -/
def fnExactMakeFractionUptoRow : OpenClaim := { program := "ythokpdhknohpoaa", sum := "f50f9b2aa0ed2b0bdd346f8d56487dfa4995eb99c6dcfe0d415435705396e69c", func := "loop.example/g01384/laws.FnExactMakeFraction", spec := "fnExactMakeFraction", apart := false, narrowed := true }
def FnExactMakeFractionUptoSaid : Prop := fnExactMakeFractionUptoRow.holds Try.pinned (OpenSpec.upto fnExactMakeFractionSpec)

/-- 'laws.FnExactCompareFractions', WHERE WHAT IT READS IS OF BULK AT MOST 1048576: true; the input reads as it did. -/
def fnExactCompareFractionsUptoRow : OpenClaim := { program := "ythokpdhknohpoaa", sum := "f50f9b2aa0ed2b0bdd346f8d56487dfa4995eb99c6dcfe0d415435705396e69c", func := "loop.example/g01384/laws.FnExactCompareFractions", spec := "fnExactCompareFractions", apart := false, narrowed := true }
def FnExactCompareFractionsUptoSaid : Prop := fnExactCompareFractionsUptoRow.holds Try.pinned (OpenSpec.upto fnExactCompareFractionsSpec)

/-- 'laws.FnExactValidHeap', WHERE WHAT IT READS IS OF BULK AT MOST 1048576: true; the input reads as it did. -/
def fnExactValidHeapUptoRow : OpenClaim := { program := "ythokpdhknohpoaa", sum := "f50f9b2aa0ed2b0bdd346f8d56487dfa4995eb99c6dcfe0d415435705396e69c", func := "loop.example/g01384/laws.FnExactValidHeap", spec := "fnExactValidHeap", apart := false, narrowed := true }
def FnExactValidHeapUptoSaid : Prop := fnExactValidHeapUptoRow.holds Try.pinned (OpenSpec.upto fnExactValidHeapSpec)

/-- 'laws.FnExactValidFleece', WHERE WHAT IT READS IS OF BULK AT MOST 1048576: true; the input reads as it did. -/
def fnExactValidFleeceUptoRow : OpenClaim := { program := "ythokpdhknohpoaa", sum := "f50f9b2aa0ed2b0bdd346f8d56487dfa4995eb99c6dcfe0d415435705396e69c", func := "loop.example/g01384/laws.FnExactValidFleece", spec := "fnExactValidFleece", apart := false, narrowed := true }
def FnExactValidFleeceUptoSaid : Prop := fnExactValidFleeceUptoRow.holds Try.pinned (OpenSpec.upto fnExactValidFleeceSpec)

/-- 'laws.FnExactGramsOf', WHERE WHAT IT READS IS OF BULK AT MOST 1048576: true; the input reads as it did. -/
def fnExactGramsOfUptoRow : OpenClaim := { program := "ythokpdhknohpoaa", sum := "f50f9b2aa0ed2b0bdd346f8d56487dfa4995eb99c6dcfe0d415435705396e69c", func := "loop.example/g01384/laws.FnExactGramsOf", spec := "fnExactGramsOf", apart := false, narrowed := true }
def FnExactGramsOfUptoSaid : Prop := fnExactGramsOfUptoRow.holds Try.pinned (OpenSpec.upto fnExactGramsOfSpec)

/-- 'laws.FnExactMeanLength', WHERE WHAT IT READS IS OF BULK AT MOST 1048576: true; the input reads as it did. -/
def fnExactMeanLengthUptoRow : OpenClaim := { program := "ythokpdhknohpoaa", sum := "f50f9b2aa0ed2b0bdd346f8d56487dfa4995eb99c6dcfe0d415435705396e69c", func := "loop.example/g01384/laws.FnExactMeanLength", spec := "fnExactMeanLength", unfollowed := true, recurses := true, apart := false, narrowed := true }
def FnExactMeanLengthUptoSaid : Prop := fnExactMeanLengthUptoRow.holds Try.pinned (OpenSpec.upto fnExactMeanLengthSpec)

/-- 'laws.FnExactMedianLength', WHERE WHAT IT READS IS OF BULK AT MOST 1048576: true; the input reads as it did. -/
def fnExactMedianLengthUptoRow : OpenClaim := { program := "ythokpdhknohpoaa", sum := "f50f9b2aa0ed2b0bdd346f8d56487dfa4995eb99c6dcfe0d415435705396e69c", func := "loop.example/g01384/laws.FnExactMedianLength", spec := "fnExactMedianLength", unfollowed := true, recurses := true, apart := false, narrowed := true }
def FnExactMedianLengthUptoSaid : Prop := fnExactMedianLengthUptoRow.holds Try.pinned (OpenSpec.upto fnExactMedianLengthSpec)

/-- 'laws.FnExactSortOut', WHERE WHAT IT READS IS OF BULK AT MOST 1048576: true; the input reads as it did. -/
def fnExactSortOutUptoRow : OpenClaim := { program := "ythokpdhknohpoaa", sum := "f50f9b2aa0ed2b0bdd346f8d56487dfa4995eb99c6dcfe0d415435705396e69c", func := "loop.example/g01384/laws.FnExactSortOut", spec := "fnExactSortOut", apart := false, narrowed := true }
def FnExactSortOutUptoSaid : Prop := fnExactSortOutUptoRow.holds Try.pinned (OpenSpec.upto fnExactSortOutSpec)

/-- 'laws.FnExactTakeLongest', WHERE WHAT IT READS IS OF BULK AT MOST 1048576: true; the input reads as it did. -/
def fnExactTakeLongestUptoRow : OpenClaim := { program := "ythokpdhknohpoaa", sum := "f50f9b2aa0ed2b0bdd346f8d56487dfa4995eb99c6dcfe0d415435705396e69c", func := "loop.example/g01384/laws.FnExactTakeLongest", spec := "fnExactTakeLongest", unfollowed := true, recurses := true, apart := false, narrowed := true }
def FnExactTakeLongestUptoSaid : Prop := fnExactTakeLongestUptoRow.holds Try.pinned (OpenSpec.upto fnExactTakeLongestSpec)

/-- 'laws.FnExactJoinHeaps', WHERE WHAT IT READS IS OF BULK AT MOST 1048576: true; the input reads as it did. -/
def fnExactJoinHeapsUptoRow : OpenClaim := { program := "ythokpdhknohpoaa", sum := "f50f9b2aa0ed2b0bdd346f8d56487dfa4995eb99c6dcfe0d415435705396e69c", func := "loop.example/g01384/laws.FnExactJoinHeaps", spec := "fnExactJoinHeaps", apart := false, narrowed := true }
def FnExactJoinHeapsUptoSaid : Prop := fnExactJoinHeapsUptoRow.holds Try.pinned (OpenSpec.upto fnExactJoinHeapsSpec)

/-- 'laws.FnExactPartHeap', WHERE WHAT IT READS IS OF BULK AT MOST 1048576: true; the input reads as it did. -/
def fnExactPartHeapUptoRow : OpenClaim := { program := "ythokpdhknohpoaa", sum := "f50f9b2aa0ed2b0bdd346f8d56487dfa4995eb99c6dcfe0d415435705396e69c", func := "loop.example/g01384/laws.FnExactPartHeap", spec := "fnExactPartHeap", unfollowed := true, recurses := true, apart := false, narrowed := true }
def FnExactPartHeapUptoSaid : Prop := fnExactPartHeapUptoRow.holds Try.pinned (OpenSpec.upto fnExactPartHeapSpec)

end Rows
end Go.Proofs.Ythokpdhknohpoaa
