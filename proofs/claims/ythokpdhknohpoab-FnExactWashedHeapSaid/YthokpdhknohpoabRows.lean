/-
  No cell of these rows narrows 'for every input' (looked for: loops, veiled, ifaces, maps, wideKeys, modest, calm, conditions, laid).
  DERIVED. THE GIVEN ROWS OF THIS SEAT. 8 by the template 'for every input the law returns true; each argument reads behind the call as it read before'; 0 by the template 'total and deterministic' (their statements: YthokpdhknohpoabTotals.lean).
  GIVEN WITH THE SEED: the statements are not yours to turn. If you find one false, say at which input.
  Laid BY PROGRAM, IN A SANDBOX (cutbox-rows.mjs): the forced cells as the released guide's own fill.sh prints them over the translation 8b8242ad2a7dcd93… (all of the seat's roots in one cut). By AI agents, Wed Nov 11 2026. No macro, syntax, notation, axiom, sorry.
-/
import Derived.Test.YthokpdhknohpoabChecked
import GoSem.Claim
import GoSem.ClaimJoined
import GoSem.ClaimMapViews
import Derived.JoinedTies
import Derived.KernelRfl
namespace Go.Proofs.Ythokpdhknohpoab
/- THE CELL 'sum', in the pinned program and in every row, IS THE sha256 OF THE DUMP (.gsa) THAT YthokpdhknohpoabProg.lean LOADS. Nothing in Lean hashes anything: it is a label: what it is worth is what the hold of that sum in a sandbox is worth. -/
noncomputable def Try.pinned : Pinned := { name := "ythokpdhknohpoab", sum := "8b8242ad2a7dcd937298f695d55421d5640cb0d859f42d95265fdeab4d41d1cd", checked := Try.checked }
namespace Rows
def none {H : Type} : Left H := { results := [], args := [] }

/-- 'laws.FnExactWashedHeap': WHATEVER THE INPUT: true; the input reads as it did. -/
def fnExactWashedHeapSpec : ChangeSpec := { name := "fnExactWashedHeap", fn := fun _ => fun
  | [d1, d2] => { results := [.lit (.bool true)], args := [d1, d2] }
  | _ => none }
def fnExactWashedHeapRow : OpenClaim := { program := "ythokpdhknohpoab", sum := "8b8242ad2a7dcd937298f695d55421d5640cb0d859f42d95265fdeab4d41d1cd", func := "loop.example/g01384/laws.FnExactWashedHeap", spec := "fnExactWashedHeap", unfollowed := true, recurses := true, plainKeys := false, apart := false }
def FnExactWashedHeapSaid : Prop := fnExactWashedHeapRow.holds Try.pinned (OpenSpec.ofChange fnExactWashedHeapSpec)

/-- ITS FALSE NEIGHBOUR: 'it returns false'. Refute it at one input. -/
def fnExactWashedHeapWrong : ChangeSpec := { name := "fnExactWashedHeap", fn := fun _ => fun
  | [d1, d2] => { results := [.lit (.bool false)], args := [d1, d2] }
  | _ => none }
def FnExactWashedHeapWrongFalsely : Prop := fnExactWashedHeapRow.holds Try.pinned (OpenSpec.ofChange fnExactWashedHeapWrong)

/-- 'laws.FnExactGradesOf': WHATEVER THE INPUT: true; the input reads as it did. -/
def fnExactGradesOfSpec : ChangeSpec := { name := "fnExactGradesOf", fn := fun _ => fun
  | [d1, d2] => { results := [.lit (.bool true)], args := [d1, d2] }
  | _ => none }
def fnExactGradesOfRow : OpenClaim := { program := "ythokpdhknohpoab", sum := "8b8242ad2a7dcd937298f695d55421d5640cb0d859f42d95265fdeab4d41d1cd", func := "loop.example/g01384/laws.FnExactGradesOf", spec := "fnExactGradesOf", plainKeys := false, apart := false }
def FnExactGradesOfSaid : Prop := fnExactGradesOfRow.holds Try.pinned (OpenSpec.ofChange fnExactGradesOfSpec)

/-- ITS FALSE NEIGHBOUR: 'it returns false'. Refute it at one input. -/
def fnExactGradesOfWrong : ChangeSpec := { name := "fnExactGradesOf", fn := fun _ => fun
  | [d1, d2] => { results := [.lit (.bool false)], args := [d1, d2] }
  | _ => none }
def FnExactGradesOfWrongFalsely : Prop := fnExactGradesOfRow.holds Try.pinned (OpenSpec.ofChange fnExactGradesOfWrong)

/-- 'laws.FnExactGradeHeaps': WHATEVER THE INPUT: true; the input reads as it did. -/
def fnExactGradeHeapsSpec : ChangeSpec := { name := "fnExactGradeHeaps", fn := fun _ => fun
  | [d1, d2] => { results := [.lit (.bool true)], args := [d1, d2] }
  | _ => none }
def fnExactGradeHeapsRow : OpenClaim := { program := "ythokpdhknohpoab", sum := "8b8242ad2a7dcd937298f695d55421d5640cb0d859f42d95265fdeab4d41d1cd", func := "loop.example/g01384/laws.FnExactGradeHeaps", spec := "fnExactGradeHeaps", plainKeys := false, apart := false }
def FnExactGradeHeapsSaid : Prop := fnExactGradeHeapsRow.holds Try.pinned (OpenSpec.ofChange fnExactGradeHeapsSpec)

/-- ITS FALSE NEIGHBOUR: 'it returns false'. Refute it at one input. -/
def fnExactGradeHeapsWrong : ChangeSpec := { name := "fnExactGradeHeaps", fn := fun _ => fun
  | [d1, d2] => { results := [.lit (.bool false)], args := [d1, d2] }
  | _ => none }
def FnExactGradeHeapsWrongFalsely : Prop := fnExactGradeHeapsRow.holds Try.pinned (OpenSpec.ofChange fnExactGradeHeapsWrong)

/-- 'laws.FnExactSharesOf': WHATEVER THE INPUT: true; the input reads as it did. -/
def fnExactSharesOfSpec : ChangeSpec := { name := "fnExactSharesOf", fn := fun _ => fun
  | [d] => { results := [.lit (.bool true)], args := [d] }
  | _ => none }
def fnExactSharesOfRow : OpenClaim := { program := "ythokpdhknohpoab", sum := "8b8242ad2a7dcd937298f695d55421d5640cb0d859f42d95265fdeab4d41d1cd", func := "loop.example/g01384/laws.FnExactSharesOf", spec := "fnExactSharesOf", unfollowed := true, recurses := true, plainKeys := false, apart := false }
def FnExactSharesOfSaid : Prop := fnExactSharesOfRow.holds Try.pinned (OpenSpec.ofChange fnExactSharesOfSpec)

/-- ITS FALSE NEIGHBOUR: 'it returns false'. Refute it at one input. -/
def fnExactSharesOfWrong : ChangeSpec := { name := "fnExactSharesOf", fn := fun _ => fun
  | [d] => { results := [.lit (.bool false)], args := [d] }
  | _ => none }
def FnExactSharesOfWrongFalsely : Prop := fnExactSharesOfRow.holds Try.pinned (OpenSpec.ofChange fnExactSharesOfWrong)

/-- 'laws.FnExactOffBy': WHATEVER THE INPUT: true; the input reads as it did. -/
def fnExactOffBySpec : ChangeSpec := { name := "fnExactOffBy", fn := fun _ => fun
  | [d1, d2] => { results := [.lit (.bool true)], args := [d1, d2] }
  | _ => none }
def fnExactOffByRow : OpenClaim := { program := "ythokpdhknohpoab", sum := "8b8242ad2a7dcd937298f695d55421d5640cb0d859f42d95265fdeab4d41d1cd", func := "loop.example/g01384/laws.FnExactOffBy", spec := "fnExactOffBy", unfollowed := true, recurses := true, plainKeys := false, apart := false }
def FnExactOffBySaid : Prop := fnExactOffByRow.holds Try.pinned (OpenSpec.ofChange fnExactOffBySpec)

/-- ITS FALSE NEIGHBOUR: 'it returns false'. Refute it at one input. -/
def fnExactOffByWrong : ChangeSpec := { name := "fnExactOffBy", fn := fun _ => fun
  | [d1, d2] => { results := [.lit (.bool false)], args := [d1, d2] }
  | _ => none }
def FnExactOffByWrongFalsely : Prop := fnExactOffByRow.holds Try.pinned (OpenSpec.ofChange fnExactOffByWrong)

/-- 'laws.FnExactBlendOf': WHATEVER THE INPUT: true; the input reads as it did. -/
def fnExactBlendOfSpec : ChangeSpec := { name := "fnExactBlendOf", fn := fun _ => fun
  | [d1, d2] => { results := [.lit (.bool true)], args := [d1, d2] }
  | _ => none }
def fnExactBlendOfRow : OpenClaim := { program := "ythokpdhknohpoab", sum := "8b8242ad2a7dcd937298f695d55421d5640cb0d859f42d95265fdeab4d41d1cd", func := "loop.example/g01384/laws.FnExactBlendOf", spec := "fnExactBlendOf", unfollowed := true, recurses := true, plainKeys := false, apart := false }
def FnExactBlendOfSaid : Prop := fnExactBlendOfRow.holds Try.pinned (OpenSpec.ofChange fnExactBlendOfSpec)

/-- ITS FALSE NEIGHBOUR: 'it returns false'. Refute it at one input. -/
def fnExactBlendOfWrong : ChangeSpec := { name := "fnExactBlendOf", fn := fun _ => fun
  | [d1, d2] => { results := [.lit (.bool false)], args := [d1, d2] }
  | _ => none }
def FnExactBlendOfWrongFalsely : Prop := fnExactBlendOfRow.holds Try.pinned (OpenSpec.ofChange fnExactBlendOfWrong)

/-- 'laws.FnExactNearestBlend': WHATEVER THE INPUT: true; the input reads as it did. -/
def fnExactNearestBlendSpec : ChangeSpec := { name := "fnExactNearestBlend", fn := fun _ => fun
  | [d1, d2, d3] => { results := [.lit (.bool true)], args := [d1, d2, d3] }
  | _ => none }
def fnExactNearestBlendRow : OpenClaim := { program := "ythokpdhknohpoab", sum := "8b8242ad2a7dcd937298f695d55421d5640cb0d859f42d95265fdeab4d41d1cd", func := "loop.example/g01384/laws.FnExactNearestBlend", spec := "fnExactNearestBlend", unfollowed := true, recurses := true, plainKeys := false, apart := false }
def FnExactNearestBlendSaid : Prop := fnExactNearestBlendRow.holds Try.pinned (OpenSpec.ofChange fnExactNearestBlendSpec)

/-- ITS FALSE NEIGHBOUR: 'it returns false'. Refute it at one input. -/
def fnExactNearestBlendWrong : ChangeSpec := { name := "fnExactNearestBlend", fn := fun _ => fun
  | [d1, d2, d3] => { results := [.lit (.bool false)], args := [d1, d2, d3] }
  | _ => none }
def FnExactNearestBlendWrongFalsely : Prop := fnExactNearestBlendRow.holds Try.pinned (OpenSpec.ofChange fnExactNearestBlendWrong)

/-- 'laws.FnBlends': WHATEVER THE INPUT: true; the input reads as it did. -/
def fnBlendsSpec : ChangeSpec := { name := "fnBlends", fn := fun _ => fun
  | [d1, d2] => { results := [.lit (.bool true)], args := [d1, d2] }
  | _ => none }
def fnBlendsRow : OpenClaim := { program := "ythokpdhknohpoab", sum := "8b8242ad2a7dcd937298f695d55421d5640cb0d859f42d95265fdeab4d41d1cd", func := "loop.example/g01384/laws.FnBlends", spec := "fnBlends", unfollowed := true, recurses := true, plainKeys := false, apart := false }
def FnBlendsSaid : Prop := fnBlendsRow.holds Try.pinned (OpenSpec.ofChange fnBlendsSpec)

/-- ITS FALSE NEIGHBOUR: 'it returns false'. Refute it at one input. -/
def fnBlendsWrong : ChangeSpec := { name := "fnBlends", fn := fun _ => fun
  | [d1, d2] => { results := [.lit (.bool false)], args := [d1, d2] }
  | _ => none }
def FnBlendsWrongFalsely : Prop := fnBlendsRow.holds Try.pinned (OpenSpec.ofChange fnBlendsWrong)

/- THE SECOND FORM. 'bulk': how many values and letters a reading holds, each counted each time it is reached (what is shared counts as often as it is met; a slice's spare places count too). A statement '..UptoSaid' is the law's where the arguments, and the package variables that the reading takes, are together of bulk at most 1048576: NARROWER than '..Said'. Prove '..Said' where nothing that the law and all that it calls make is longer than what came in: it says more and counts as full. Else prove '..UptoSaid'. A law counts once. -/
mutual
def uptoBulk {H : Type} : DataW H → Nat
  | .lit (.string bytes) => bytes.length + 1
  | .lit _ => 1
  | .nil => 1
  | .ptr d => uptoBulk d + 1
  | .slice elems spare => uptoBulkAll elems + uptoBulkAll spare + 1
  | .agg parts => uptoBulkAll parts + 1
  | .iface _ d => uptoBulk d + 1
  | .map entries => uptoBulkEntries entries + 1
  | .held _ => 1
def uptoBulkAll {H : Type} : List (DataW H) → Nat
  | [] => 0
  | d :: r => uptoBulk d + uptoBulkAll r
def uptoBulkEntries {H : Type} : List (Lit × DataW H) → Nat
  | [] => 0
  | x :: r => uptoBulkEntry x + uptoBulkEntries r
def uptoBulkEntry {H : Type} : Lit × DataW H → Nat
  | (.string bytes, d) => bytes.length + uptoBulk d + 1
  | (_, d) => uptoBulk d + 1
 end
def uptoSmall : (H : Type) → List (DataW H) → Bool := fun _ ds => decide (uptoBulkAll ds ≤ 1048576)
def OpenSpec.upto (s : _root_.Go.ChangeSpec) : _root_.Go.OpenSpec := { _root_.Go.OpenSpec.ofChange s with cond := some uptoSmall }

/-- 'laws.FnExactWashedHeap', WHERE WHAT IT READS IS OF BULK AT MOST 1048576: true; the input reads as it did. -/
def fnExactWashedHeapUptoRow : OpenClaim := { program := "ythokpdhknohpoab", sum := "8b8242ad2a7dcd937298f695d55421d5640cb0d859f42d95265fdeab4d41d1cd", func := "loop.example/g01384/laws.FnExactWashedHeap", spec := "fnExactWashedHeap", unfollowed := true, recurses := true, plainKeys := false, apart := false, narrowed := true }
def FnExactWashedHeapUptoSaid : Prop := fnExactWashedHeapUptoRow.holds Try.pinned (OpenSpec.upto fnExactWashedHeapSpec)

/-- 'laws.FnExactGradesOf', WHERE WHAT IT READS IS OF BULK AT MOST 1048576: true; the input reads as it did. -/
def fnExactGradesOfUptoRow : OpenClaim := { program := "ythokpdhknohpoab", sum := "8b8242ad2a7dcd937298f695d55421d5640cb0d859f42d95265fdeab4d41d1cd", func := "loop.example/g01384/laws.FnExactGradesOf", spec := "fnExactGradesOf", plainKeys := false, apart := false, narrowed := true }
def FnExactGradesOfUptoSaid : Prop := fnExactGradesOfUptoRow.holds Try.pinned (OpenSpec.upto fnExactGradesOfSpec)

/-- 'laws.FnExactGradeHeaps', WHERE WHAT IT READS IS OF BULK AT MOST 1048576: true; the input reads as it did. -/
def fnExactGradeHeapsUptoRow : OpenClaim := { program := "ythokpdhknohpoab", sum := "8b8242ad2a7dcd937298f695d55421d5640cb0d859f42d95265fdeab4d41d1cd", func := "loop.example/g01384/laws.FnExactGradeHeaps", spec := "fnExactGradeHeaps", plainKeys := false, apart := false, narrowed := true }
def FnExactGradeHeapsUptoSaid : Prop := fnExactGradeHeapsUptoRow.holds Try.pinned (OpenSpec.upto fnExactGradeHeapsSpec)

/-- 'laws.FnExactSharesOf', WHERE WHAT IT READS IS OF BULK AT MOST 1048576: true; the input reads as it did. -/
def fnExactSharesOfUptoRow : OpenClaim := { program := "ythokpdhknohpoab", sum := "8b8242ad2a7dcd937298f695d55421d5640cb0d859f42d95265fdeab4d41d1cd", func := "loop.example/g01384/laws.FnExactSharesOf", spec := "fnExactSharesOf", unfollowed := true, recurses := true, plainKeys := false, apart := false, narrowed := true }
def FnExactSharesOfUptoSaid : Prop := fnExactSharesOfUptoRow.holds Try.pinned (OpenSpec.upto fnExactSharesOfSpec)

/-- 'laws.FnExactOffBy', WHERE WHAT IT READS IS OF BULK AT MOST 1048576: true; the input reads as it did. -/
def fnExactOffByUptoRow : OpenClaim := { program := "ythokpdhknohpoab", sum := "8b8242ad2a7dcd937298f695d55421d5640cb0d859f42d95265fdeab4d41d1cd", func := "loop.example/g01384/laws.FnExactOffBy", spec := "fnExactOffBy", unfollowed := true, recurses := true, plainKeys := false, apart := false, narrowed := true }
def FnExactOffByUptoSaid : Prop := fnExactOffByUptoRow.holds Try.pinned (OpenSpec.upto fnExactOffBySpec)

/-- 'laws.FnExactBlendOf', WHERE WHAT IT READS IS OF BULK AT MOST 1048576: true; the input reads as it did. -/
def fnExactBlendOfUptoRow : OpenClaim := { program := "ythokpdhknohpoab", sum := "8b8242ad2a7dcd937298f695d55421d5640cb0d859f42d95265fdeab4d41d1cd", func := "loop.example/g01384/laws.FnExactBlendOf", spec := "fnExactBlendOf", unfollowed := true, recurses := true, plainKeys := false, apart := false, narrowed := true }
def FnExactBlendOfUptoSaid : Prop := fnExactBlendOfUptoRow.holds Try.pinned (OpenSpec.upto fnExactBlendOfSpec)

/-- 'laws.FnExactNearestBlend', WHERE WHAT IT READS IS OF BULK AT MOST 1048576: true; the input reads as it did. -/
def fnExactNearestBlendUptoRow : OpenClaim := { program := "ythokpdhknohpoab", sum := "8b8242ad2a7dcd937298f695d55421d5640cb0d859f42d95265fdeab4d41d1cd", func := "loop.example/g01384/laws.FnExactNearestBlend", spec := "fnExactNearestBlend", unfollowed := true, recurses := true, plainKeys := false, apart := false, narrowed := true }
def FnExactNearestBlendUptoSaid : Prop := fnExactNearestBlendUptoRow.holds Try.pinned (OpenSpec.upto fnExactNearestBlendSpec)

/-- 'laws.FnBlends', WHERE WHAT IT READS IS OF BULK AT MOST 1048576: true; the input reads as it did. -/
def fnBlendsUptoRow : OpenClaim := { program := "ythokpdhknohpoab", sum := "8b8242ad2a7dcd937298f695d55421d5640cb0d859f42d95265fdeab4d41d1cd", func := "loop.example/g01384/laws.FnBlends", spec := "fnBlends", unfollowed := true, recurses := true, plainKeys := false, apart := false, narrowed := true }
def FnBlendsUptoSaid : Prop := fnBlendsUptoRow.holds Try.pinned (OpenSpec.upto fnBlendsSpec)

end Rows
end Go.Proofs.Ythokpdhknohpoab
