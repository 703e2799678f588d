/-
  No cell of these rows narrows 'for every input' (looked for: loops, veiled, ifaces, maps, wideKeys, modest, calm, conditions, laid).
  DERIVED. THE GIVEN ROWS OF THIS SEAT. 7 by the template 'for every input the law returns true; each argument reads behind the call as it read before'; 0 by the template 'total and deterministic' (their statements: YtekejhnhkifcfaaTotals.lean).
  GIVEN WITH THE SEED: the statements are not yours to turn. If you find one false, say at which input.
  Laid BY PROGRAM, IN A SANDBOX (cutbox-rows.mjs): the forced cells as the released guide's own fill.sh prints them over the translation bb857f96f6078da2… (all of the seat's roots in one cut). By AI agents, Wed Nov 11 2026. No macro, syntax, notation, axiom, sorry.
-/
import Derived.Test.YtekejhnhkifcfaaChecked
import GoSem.Claim
import GoSem.ClaimJoined
import GoSem.ClaimMapViews
import Derived.JoinedTies
import Derived.KernelRfl
namespace Go.Proofs.Ytekejhnhkifcfaa
/- THE CELL 'sum', in the pinned program and in every row, IS THE sha256 OF THE DUMP (.gsa) THAT YtekejhnhkifcfaaProg.lean LOADS. Nothing in Lean hashes anything: it is a label: what it is worth is what the hold of that sum in a sandbox is worth. -/
noncomputable def Try.pinned : Pinned := { name := "ytekejhnhkifcfaa", sum := "bb857f96f6078da29bea32690f435a8ed166d8ac781f7f18c10c9bb14c273271", checked := Try.checked }
namespace Rows
def none {H : Type} : Left H := { results := [], args := [] }

/-- 'laws.FnExactJoinHeaps': WHATEVER THE INPUT: true; the input reads as it did. -/
def fnExactJoinHeapsSpec : ChangeSpec := { name := "fnExactJoinHeaps", fn := fun _ => fun
  | [d1, d2] => { results := [.lit (.bool true)], args := [d1, d2] }
  | _ => none }
def fnExactJoinHeapsRow : OpenClaim := { program := "ytekejhnhkifcfaa", sum := "bb857f96f6078da29bea32690f435a8ed166d8ac781f7f18c10c9bb14c273271", func := "loop.example/g01384/laws.FnExactJoinHeaps", spec := "fnExactJoinHeaps", apart := false }
def FnExactJoinHeapsSaid : Prop := fnExactJoinHeapsRow.holds Try.pinned (OpenSpec.ofChange fnExactJoinHeapsSpec)

/-- ITS FALSE NEIGHBOUR: 'it returns false'. Refute it at one input. -/
def fnExactJoinHeapsWrong : ChangeSpec := { name := "fnExactJoinHeaps", fn := fun _ => fun
  | [d1, d2] => { results := [.lit (.bool false)], args := [d1, d2] }
  | _ => none }
def FnExactJoinHeapsWrongFalsely : Prop := fnExactJoinHeapsRow.holds Try.pinned (OpenSpec.ofChange fnExactJoinHeapsWrong)

/-- 'laws.FnExactPartHeap': WHATEVER THE INPUT: true; the input reads as it did. -/
def fnExactPartHeapSpec : ChangeSpec := { name := "fnExactPartHeap", fn := fun _ => fun
  | [d1, d2] => { results := [.lit (.bool true)], args := [d1, d2] }
  | _ => none }
def fnExactPartHeapRow : OpenClaim := { program := "ytekejhnhkifcfaa", sum := "bb857f96f6078da29bea32690f435a8ed166d8ac781f7f18c10c9bb14c273271", func := "loop.example/g01384/laws.FnExactPartHeap", spec := "fnExactPartHeap", unfollowed := true, recurses := true, apart := false }
def FnExactPartHeapSaid : Prop := fnExactPartHeapRow.holds Try.pinned (OpenSpec.ofChange fnExactPartHeapSpec)

/-- ITS FALSE NEIGHBOUR: 'it returns false'. Refute it at one input. -/
def fnExactPartHeapWrong : ChangeSpec := { name := "fnExactPartHeap", fn := fun _ => fun
  | [d1, d2] => { results := [.lit (.bool false)], args := [d1, d2] }
  | _ => none }
def FnExactPartHeapWrongFalsely : Prop := fnExactPartHeapRow.holds Try.pinned (OpenSpec.ofChange fnExactPartHeapWrong)

/-- 'laws.FnExactTakeLongest': WHATEVER THE INPUT: true; the input reads as it did. -/
def fnExactTakeLongestSpec : ChangeSpec := { name := "fnExactTakeLongest", fn := fun _ => fun
  | [d1, d2] => { results := [.lit (.bool true)], args := [d1, d2] }
  | _ => none }
def fnExactTakeLongestRow : OpenClaim := { program := "ytekejhnhkifcfaa", sum := "bb857f96f6078da29bea32690f435a8ed166d8ac781f7f18c10c9bb14c273271", func := "loop.example/g01384/laws.FnExactTakeLongest", spec := "fnExactTakeLongest", unfollowed := true, recurses := true, apart := false }
def FnExactTakeLongestSaid : Prop := fnExactTakeLongestRow.holds Try.pinned (OpenSpec.ofChange fnExactTakeLongestSpec)

/-- ITS FALSE NEIGHBOUR: 'it returns false'. Refute it at one input. -/
def fnExactTakeLongestWrong : ChangeSpec := { name := "fnExactTakeLongest", fn := fun _ => fun
  | [d1, d2] => { results := [.lit (.bool false)], args := [d1, d2] }
  | _ => none }
def FnExactTakeLongestWrongFalsely : Prop := fnExactTakeLongestRow.holds Try.pinned (OpenSpec.ofChange fnExactTakeLongestWrong)

/-- 'laws.FnExactMeanLength': WHATEVER THE INPUT: true; the input reads as it did. -/
def fnExactMeanLengthSpec : ChangeSpec := { name := "fnExactMeanLength", fn := fun _ => fun
  | [d] => { results := [.lit (.bool true)], args := [d] }
  | _ => none }
def fnExactMeanLengthRow : OpenClaim := { program := "ytekejhnhkifcfaa", sum := "bb857f96f6078da29bea32690f435a8ed166d8ac781f7f18c10c9bb14c273271", func := "loop.example/g01384/laws.FnExactMeanLength", spec := "fnExactMeanLength", unfollowed := true, recurses := true, apart := false }
def FnExactMeanLengthSaid : Prop := fnExactMeanLengthRow.holds Try.pinned (OpenSpec.ofChange fnExactMeanLengthSpec)

/-- ITS FALSE NEIGHBOUR: 'it returns false'. Refute it at one input. -/
def fnExactMeanLengthWrong : ChangeSpec := { name := "fnExactMeanLength", fn := fun _ => fun
  | [d] => { results := [.lit (.bool false)], args := [d] }
  | _ => none }
def FnExactMeanLengthWrongFalsely : Prop := fnExactMeanLengthRow.holds Try.pinned (OpenSpec.ofChange fnExactMeanLengthWrong)

/-- 'laws.FnExactMedianLength': WHATEVER THE INPUT: true; the input reads as it did. -/
def fnExactMedianLengthSpec : ChangeSpec := { name := "fnExactMedianLength", fn := fun _ => fun
  | [d] => { results := [.lit (.bool true)], args := [d] }
  | _ => none }
def fnExactMedianLengthRow : OpenClaim := { program := "ytekejhnhkifcfaa", sum := "bb857f96f6078da29bea32690f435a8ed166d8ac781f7f18c10c9bb14c273271", func := "loop.example/g01384/laws.FnExactMedianLength", spec := "fnExactMedianLength", unfollowed := true, recurses := true, apart := false }
def FnExactMedianLengthSaid : Prop := fnExactMedianLengthRow.holds Try.pinned (OpenSpec.ofChange fnExactMedianLengthSpec)

/-- ITS FALSE NEIGHBOUR: 'it returns false'. Refute it at one input. -/
def fnExactMedianLengthWrong : ChangeSpec := { name := "fnExactMedianLength", fn := fun _ => fun
  | [d] => { results := [.lit (.bool false)], args := [d] }
  | _ => none }
def FnExactMedianLengthWrongFalsely : Prop := fnExactMedianLengthRow.holds Try.pinned (OpenSpec.ofChange fnExactMedianLengthWrong)

/-- 'laws.FnExactSharesOf': WHATEVER THE INPUT: true; the input reads as it did. -/
def fnExactSharesOfSpec : ChangeSpec := { name := "fnExactSharesOf", fn := fun _ => fun
  | [d] => { results := [.lit (.bool true)], args := [d] }
  | _ => none }
def fnExactSharesOfRow : OpenClaim := { program := "ytekejhnhkifcfaa", sum := "bb857f96f6078da29bea32690f435a8ed166d8ac781f7f18c10c9bb14c273271", func := "loop.example/g01384/laws.FnExactSharesOf", spec := "fnExactSharesOf", unfollowed := true, recurses := true, apart := false }
def FnExactSharesOfSaid : Prop := fnExactSharesOfRow.holds Try.pinned (OpenSpec.ofChange fnExactSharesOfSpec)

/-- ITS FALSE NEIGHBOUR: 'it returns false'. Refute it at one input. -/
def fnExactSharesOfWrong : ChangeSpec := { name := "fnExactSharesOf", fn := fun _ => fun
  | [d] => { results := [.lit (.bool false)], args := [d] }
  | _ => none }
def FnExactSharesOfWrongFalsely : Prop := fnExactSharesOfRow.holds Try.pinned (OpenSpec.ofChange fnExactSharesOfWrong)

/-- 'laws.FnExactOffBy': WHATEVER THE INPUT: true; the input reads as it did. -/
def fnExactOffBySpec : ChangeSpec := { name := "fnExactOffBy", fn := fun _ => fun
  | [d1, d2] => { results := [.lit (.bool true)], args := [d1, d2] }
  | _ => none }
def fnExactOffByRow : OpenClaim := { program := "ytekejhnhkifcfaa", sum := "bb857f96f6078da29bea32690f435a8ed166d8ac781f7f18c10c9bb14c273271", func := "loop.example/g01384/laws.FnExactOffBy", spec := "fnExactOffBy", unfollowed := true, recurses := true, apart := false }
def FnExactOffBySaid : Prop := fnExactOffByRow.holds Try.pinned (OpenSpec.ofChange fnExactOffBySpec)

/-- ITS FALSE NEIGHBOUR: 'it returns false'. Refute it at one input. -/
def fnExactOffByWrong : ChangeSpec := { name := "fnExactOffBy", fn := fun _ => fun
  | [d1, d2] => { results := [.lit (.bool false)], args := [d1, d2] }
  | _ => none }
def FnExactOffByWrongFalsely : Prop := fnExactOffByRow.holds Try.pinned (OpenSpec.ofChange fnExactOffByWrong)

/- THE SECOND FORM. 'bulk': how many values and letters a reading holds, each counted each time it is reached (what is shared counts as often as it is met; a slice's spare places count too). A statement '..UptoSaid' is the law's where the arguments, and the package variables that the reading takes, are together of bulk at most 1048576: NARROWER than '..Said'. Prove '..Said' where nothing that the law and all that it calls make is longer than what came in: it says more and counts as full. Else prove '..UptoSaid'. A law counts once. -/
mutual
def uptoBulk {H : Type} : DataW H → Nat
  | .lit (.string bytes) => bytes.length + 1
  | .lit _ => 1
  | .nil => 1
  | .ptr d => uptoBulk d + 1
  | .slice elems spare => uptoBulkAll elems + uptoBulkAll spare + 1
  | .agg parts => uptoBulkAll parts + 1
  | .iface _ d => uptoBulk d + 1
  | .map entries => uptoBulkEntries entries + 1
  | .held _ => 1
def uptoBulkAll {H : Type} : List (DataW H) → Nat
  | [] => 0
  | d :: r => uptoBulk d + uptoBulkAll r
def uptoBulkEntries {H : Type} : List (Lit × DataW H) → Nat
  | [] => 0
  | x :: r => uptoBulkEntry x + uptoBulkEntries r
def uptoBulkEntry {H : Type} : Lit × DataW H → Nat
  | (.string bytes, d) => bytes.length + uptoBulk d + 1
  | (_, d) => uptoBulk d + 1
 end
def uptoSmall : (H : Type) → List (DataW H) → Bool := fun _ ds => decide (uptoBulkAll ds ≤ 1048576)
def OpenSpec.upto (s : _root_.Go.ChangeSpec) : _root_.Go.OpenSpec := { _root_.Go.OpenSpec.ofChange s with cond := some uptoSmall }

/-- 'laws.FnExactJoinHeaps', WHERE WHAT IT READS IS OF BULK AT MOST 1048576: true; the input reads as it did. -/
def fnExactJoinHeapsUptoRow : OpenClaim := { program := "ytekejhnhkifcfaa", sum := "bb857f96f6078da29bea32690f435a8ed166d8ac781f7f18c10c9bb14c273271", func := "loop.example/g01384/laws.FnExactJoinHeaps", spec := "fnExactJoinHeaps", apart := false, narrowed := true }
def FnExactJoinHeapsUptoSaid : Prop := fnExactJoinHeapsUptoRow.holds Try.pinned (OpenSpec.upto fnExactJoinHeapsSpec)

/-- 'laws.FnExactPartHeap', WHERE WHAT IT READS IS OF BULK AT MOST 1048576: true; the input reads as it did. -/
def fnExactPartHeapUptoRow : OpenClaim := { program := "ytekejhnhkifcfaa", sum := "bb857f96f6078da29bea32690f435a8ed166d8ac781f7f18c10c9bb14c273271", func := "loop.example/g01384/laws.FnExactPartHeap", spec := "fnExactPartHeap", unfollowed := true, recurses := true, apart := false, narrowed := true }
def FnExactPartHeapUptoSaid : Prop := fnExactPartHeapUptoRow.holds Try.pinned (OpenSpec.upto fnExactPartHeapSpec)

/-- 'laws.FnExactTakeLongest', WHERE WHAT IT READS IS OF BULK AT MOST 1048576: true; the input reads as it did. -/
def fnExactTakeLongestUptoRow : OpenClaim := { program := "ytekejhnhkifcfaa", sum := "bb857f96f6078da29bea32690f435a8ed166d8ac781f7f18c10c9bb14c273271", func := "loop.example/g01384/laws.FnExactTakeLongest", spec := "fnExactTakeLongest", unfollowed := true, recurses := true, apart := false, narrowed := true }
def FnExactTakeLongestUptoSaid : Prop := fnExactTakeLongestUptoRow.holds Try.pinned (OpenSpec.upto fnExactTakeLongestSpec)

/-- 'laws.FnExactMeanLength', WHERE WHAT IT READS IS OF BULK AT MOST 1048576: true; the input reads as it did. -/
def fnExactMeanLengthUptoRow : OpenClaim := { program := "ytekejhnhkifcfaa", sum := "bb857f96f6078da29bea32690f435a8ed166d8ac781f7f18c10c9bb14c273271", func := "loop.example/g01384/laws.FnExactMeanLength", spec := "fnExactMeanLength", unfollowed := true, recurses := true, apart := false, narrowed := true }
def FnExactMeanLengthUptoSaid : Prop := fnExactMeanLengthUptoRow.holds Try.pinned (OpenSpec.upto fnExactMeanLengthSpec)

/-- 'laws.FnExactMedianLength', WHERE WHAT IT READS IS OF BULK AT MOST 1048576: true; the input reads as it did. -/
def fnExactMedianLengthUptoRow : OpenClaim := { program := "ytekejhnhkifcfaa", sum := "bb857f96f6078da29bea32690f435a8ed166d8ac781f7f18c10c9bb14c273271", func := "loop.example/g01384/laws.FnExactMedianLength", spec := "fnExactMedianLength", unfollowed := true, recurses := true, apart := false, narrowed := true }
def FnExactMedianLengthUptoSaid : Prop := fnExactMedianLengthUptoRow.holds Try.pinned (OpenSpec.upto fnExactMedianLengthSpec)

/-- 'laws.FnExactSharesOf', WHERE WHAT IT READS IS OF BULK AT MOST 1048576: true; the input reads as it did. -/
def fnExactSharesOfUptoRow : OpenClaim := { program := "ytekejhnhkifcfaa", sum := "bb857f96f6078da29bea32690f435a8ed166d8ac781f7f18c10c9bb14c273271", func := "loop.example/g01384/laws.FnExactSharesOf", spec := "fnExactSharesOf", unfollowed := true, recurses := true, apart := false, narrowed := true }
def FnExactSharesOfUptoSaid : Prop := fnExactSharesOfUptoRow.holds Try.pinned (OpenSpec.upto fnExactSharesOfSpec)

/-- 'laws.FnExactOffBy', WHERE WHAT IT READS IS OF BULK AT MOST 1048576: true; the input reads as it did. -/
def fnExactOffByUptoRow : OpenClaim := { program := "ytekejhnhkifcfaa", sum := "bb857f96f6078da29bea32690f435a8ed166d8ac781f7f18c10c9bb14c273271", func := "loop.example/g01384/laws.FnExactOffBy", spec := "fnExactOffBy", unfollowed := true, recurses := true, apart := false, narrowed := true }
def FnExactOffByUptoSaid : Prop := fnExactOffByUptoRow.holds Try.pinned (OpenSpec.upto fnExactOffBySpec)

end Rows
end Go.Proofs.Ytekejhnhkifcfaa
