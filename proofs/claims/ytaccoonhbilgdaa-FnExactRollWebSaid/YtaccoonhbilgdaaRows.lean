/-
  No cell of these rows narrows 'for every input' (looked for: loops, veiled, ifaces, maps, wideKeys, modest, calm, conditions, laid).
  DERIVED. THE GIVEN ROWS OF THIS SEAT. 12 by the template 'for every input the law returns true; each argument reads behind the call as it read before'; 0 by the template 'total and deterministic' (their statements: YtaccoonhbilgdaaTotals.lean).
  GIVEN WITH THE SEED: the statements are not yours to turn. If you find one false, say at which input.
  Laid BY PROGRAM, IN A SANDBOX (cutbox-rows.mjs): the forced cells as the released guide's own fill.sh prints them over the translation 7f9645fb0621dc2b… (all of the seat's roots in one cut). By AI agents, Wed Nov 11 2026. No macro, syntax, notation, axiom, sorry.
-/
import Derived.Test.YtaccoonhbilgdaaChecked
import GoSem.Claim
import GoSem.ClaimJoined
import GoSem.ClaimMapViews
import Derived.JoinedTies
import Derived.KernelRfl
namespace Go.Proofs.Ytaccoonhbilgdaa
/- THE CELL 'sum', in the pinned program and in every row, IS THE sha256 OF THE DUMP (.gsa) THAT YtaccoonhbilgdaaProg.lean LOADS. Nothing in Lean hashes anything: it is a label: what it is worth is what the hold of that sum in a sandbox is worth. -/
noncomputable def Try.pinned : Pinned := { name := "ytaccoonhbilgdaa", sum := "7f9645fb0621dc2b6fe5c3e732a35959cb2245c82fa1853e9e5c7ead7604db7f", checked := Try.checked }
namespace Rows
def none {H : Type} : Left H := { results := [], args := [] }

/-- 'laws.FnExactValidWeb': WHATEVER THE INPUT: true; the input reads as it did. -/
def fnExactValidWebSpec : ChangeSpec := { name := "fnExactValidWeb", fn := fun _ => fun
  | [d] => { results := [.lit (.bool true)], args := [d] }
  | _ => none }
def fnExactValidWebRow : OpenClaim := { program := "ytaccoonhbilgdaa", sum := "7f9645fb0621dc2b6fe5c3e732a35959cb2245c82fa1853e9e5c7ead7604db7f", func := "loop.example/g01384/laws.FnExactValidWeb", spec := "fnExactValidWeb", apart := false }
def FnExactValidWebSaid : Prop := fnExactValidWebRow.holds Try.pinned (OpenSpec.ofChange fnExactValidWebSpec)

/-- ITS FALSE NEIGHBOUR: 'it returns false'. Refute it at one input. -/
def fnExactValidWebWrong : ChangeSpec := { name := "fnExactValidWeb", fn := fun _ => fun
  | [d] => { results := [.lit (.bool false)], args := [d] }
  | _ => none }
def FnExactValidWebWrongFalsely : Prop := fnExactValidWebRow.holds Try.pinned (OpenSpec.ofChange fnExactValidWebWrong)

/-- 'laws.FnExactTotalOf': WHATEVER THE INPUT: true; the input reads as it did. -/
def fnExactTotalOfSpec : ChangeSpec := { name := "fnExactTotalOf", fn := fun _ => fun
  | [d] => { results := [.lit (.bool true)], args := [d] }
  | _ => none }
def fnExactTotalOfRow : OpenClaim := { program := "ytaccoonhbilgdaa", sum := "7f9645fb0621dc2b6fe5c3e732a35959cb2245c82fa1853e9e5c7ead7604db7f", func := "loop.example/g01384/laws.FnExactTotalOf", spec := "fnExactTotalOf", apart := false }
def FnExactTotalOfSaid : Prop := fnExactTotalOfRow.holds Try.pinned (OpenSpec.ofChange fnExactTotalOfSpec)

/-- ITS FALSE NEIGHBOUR: 'it returns false'. Refute it at one input. -/
def fnExactTotalOfWrong : ChangeSpec := { name := "fnExactTotalOf", fn := fun _ => fun
  | [d] => { results := [.lit (.bool false)], args := [d] }
  | _ => none }
def FnExactTotalOfWrongFalsely : Prop := fnExactTotalOfRow.holds Try.pinned (OpenSpec.ofChange fnExactTotalOfWrong)

/-- 'laws.FnExactSpreadOf': WHATEVER THE INPUT: true; the input reads as it did. -/
def fnExactSpreadOfSpec : ChangeSpec := { name := "fnExactSpreadOf", fn := fun _ => fun
  | [d] => { results := [.lit (.bool true)], args := [d] }
  | _ => none }
def fnExactSpreadOfRow : OpenClaim := { program := "ytaccoonhbilgdaa", sum := "7f9645fb0621dc2b6fe5c3e732a35959cb2245c82fa1853e9e5c7ead7604db7f", func := "loop.example/g01384/laws.FnExactSpreadOf", spec := "fnExactSpreadOf", apart := false }
def FnExactSpreadOfSaid : Prop := fnExactSpreadOfRow.holds Try.pinned (OpenSpec.ofChange fnExactSpreadOfSpec)

/-- ITS FALSE NEIGHBOUR: 'it returns false'. Refute it at one input. -/
def fnExactSpreadOfWrong : ChangeSpec := { name := "fnExactSpreadOf", fn := fun _ => fun
  | [d] => { results := [.lit (.bool false)], args := [d] }
  | _ => none }
def FnExactSpreadOfWrongFalsely : Prop := fnExactSpreadOfRow.holds Try.pinned (OpenSpec.ofChange fnExactSpreadOfWrong)

/-- 'laws.FnExactUnevenness': WHATEVER THE INPUT: true; the input reads as it did. -/
def fnExactUnevennessSpec : ChangeSpec := { name := "fnExactUnevenness", fn := fun _ => fun
  | [d] => { results := [.lit (.bool true)], args := [d] }
  | _ => none }
def fnExactUnevennessRow : OpenClaim := { program := "ytaccoonhbilgdaa", sum := "7f9645fb0621dc2b6fe5c3e732a35959cb2245c82fa1853e9e5c7ead7604db7f", func := "loop.example/g01384/laws.FnExactUnevenness", spec := "fnExactUnevenness", apart := false }
def FnExactUnevennessSaid : Prop := fnExactUnevennessRow.holds Try.pinned (OpenSpec.ofChange fnExactUnevennessSpec)

/-- ITS FALSE NEIGHBOUR: 'it returns false'. Refute it at one input. -/
def fnExactUnevennessWrong : ChangeSpec := { name := "fnExactUnevenness", fn := fun _ => fun
  | [d] => { results := [.lit (.bool false)], args := [d] }
  | _ => none }
def FnExactUnevennessWrongFalsely : Prop := fnExactUnevennessRow.holds Try.pinned (OpenSpec.ofChange fnExactUnevennessWrong)

/-- 'laws.FnExactFoldWeb': WHATEVER THE INPUT: true; the input reads as it did. -/
def fnExactFoldWebSpec : ChangeSpec := { name := "fnExactFoldWeb", fn := fun _ => fun
  | [d] => { results := [.lit (.bool true)], args := [d] }
  | _ => none }
def fnExactFoldWebRow : OpenClaim := { program := "ytaccoonhbilgdaa", sum := "7f9645fb0621dc2b6fe5c3e732a35959cb2245c82fa1853e9e5c7ead7604db7f", func := "loop.example/g01384/laws.FnExactFoldWeb", spec := "fnExactFoldWeb", unfollowed := true, recurses := true, apart := false }
def FnExactFoldWebSaid : Prop := fnExactFoldWebRow.holds Try.pinned (OpenSpec.ofChange fnExactFoldWebSpec)

/-- ITS FALSE NEIGHBOUR: 'it returns false'. Refute it at one input. -/
def fnExactFoldWebWrong : ChangeSpec := { name := "fnExactFoldWeb", fn := fun _ => fun
  | [d] => { results := [.lit (.bool false)], args := [d] }
  | _ => none }
def FnExactFoldWebWrongFalsely : Prop := fnExactFoldWebRow.holds Try.pinned (OpenSpec.ofChange fnExactFoldWebWrong)

/-- 'laws.FnExactCrossWeb': WHATEVER THE INPUT: true; the input reads as it did. -/
def fnExactCrossWebSpec : ChangeSpec := { name := "fnExactCrossWeb", fn := fun _ => fun
  | [d] => { results := [.lit (.bool true)], args := [d] }
  | _ => none }
def fnExactCrossWebRow : OpenClaim := { program := "ytaccoonhbilgdaa", sum := "7f9645fb0621dc2b6fe5c3e732a35959cb2245c82fa1853e9e5c7ead7604db7f", func := "loop.example/g01384/laws.FnExactCrossWeb", spec := "fnExactCrossWeb", unfollowed := true, recurses := true, apart := false }
def FnExactCrossWebSaid : Prop := fnExactCrossWebRow.holds Try.pinned (OpenSpec.ofChange fnExactCrossWebSpec)

/-- ITS FALSE NEIGHBOUR: 'it returns false'. Refute it at one input. -/
def fnExactCrossWebWrong : ChangeSpec := { name := "fnExactCrossWeb", fn := fun _ => fun
  | [d] => { results := [.lit (.bool false)], args := [d] }
  | _ => none }
def FnExactCrossWebWrongFalsely : Prop := fnExactCrossWebRow.holds Try.pinned (OpenSpec.ofChange fnExactCrossWebWrong)

/-- 'laws.FnExactRollWeb': WHATEVER THE INPUT: true; the input reads as it did. -/
def fnExactRollWebSpec : ChangeSpec := { name := "fnExactRollWeb", fn := fun _ => fun
  | [d1, d2] => { results := [.lit (.bool true)], args := [d1, d2] }
  | _ => none }
def fnExactRollWebRow : OpenClaim := { program := "ytaccoonhbilgdaa", sum := "7f9645fb0621dc2b6fe5c3e732a35959cb2245c82fa1853e9e5c7ead7604db7f", func := "loop.example/g01384/laws.FnExactRollWeb", spec := "fnExactRollWeb", apart := false }
def FnExactRollWebSaid : Prop := fnExactRollWebRow.holds Try.pinned (OpenSpec.ofChange fnExactRollWebSpec)

/-- ITS FALSE NEIGHBOUR: 'it returns false'. Refute it at one input. -/
def fnExactRollWebWrong : ChangeSpec := { name := "fnExactRollWeb", fn := fun _ => fun
  | [d1, d2] => { results := [.lit (.bool false)], args := [d1, d2] }
  | _ => none }
def FnExactRollWebWrongFalsely : Prop := fnExactRollWebRow.holds Try.pinned (OpenSpec.ofChange fnExactRollWebWrong)

/-- 'laws.FnExactDrawOut': WHATEVER THE INPUT: true; the input reads as it did. -/
def fnExactDrawOutSpec : ChangeSpec := { name := "fnExactDrawOut", fn := fun _ => fun
  | [d1, d2] => { results := [.lit (.bool true)], args := [d1, d2] }
  | _ => none }
def fnExactDrawOutRow : OpenClaim := { program := "ytaccoonhbilgdaa", sum := "7f9645fb0621dc2b6fe5c3e732a35959cb2245c82fa1853e9e5c7ead7604db7f", func := "loop.example/g01384/laws.FnExactDrawOut", spec := "fnExactDrawOut", apart := false }
def FnExactDrawOutSaid : Prop := fnExactDrawOutRow.holds Try.pinned (OpenSpec.ofChange fnExactDrawOutSpec)

/-- ITS FALSE NEIGHBOUR: 'it returns false'. Refute it at one input. -/
def fnExactDrawOutWrong : ChangeSpec := { name := "fnExactDrawOut", fn := fun _ => fun
  | [d1, d2] => { results := [.lit (.bool false)], args := [d1, d2] }
  | _ => none }
def FnExactDrawOutWrongFalsely : Prop := fnExactDrawOutRow.holds Try.pinned (OpenSpec.ofChange fnExactDrawOutWrong)

/-- 'laws.FnExactMirrorWeb': WHATEVER THE INPUT: true; the input reads as it did. -/
def fnExactMirrorWebSpec : ChangeSpec := { name := "fnExactMirrorWeb", fn := fun _ => fun
  | [d] => { results := [.lit (.bool true)], args := [d] }
  | _ => none }
def fnExactMirrorWebRow : OpenClaim := { program := "ytaccoonhbilgdaa", sum := "7f9645fb0621dc2b6fe5c3e732a35959cb2245c82fa1853e9e5c7ead7604db7f", func := "loop.example/g01384/laws.FnExactMirrorWeb", spec := "fnExactMirrorWeb", unfollowed := true, recurses := true, apart := false }
def FnExactMirrorWebSaid : Prop := fnExactMirrorWebRow.holds Try.pinned (OpenSpec.ofChange fnExactMirrorWebSpec)

/-- ITS FALSE NEIGHBOUR: 'it returns false'. Refute it at one input. -/
def fnExactMirrorWebWrong : ChangeSpec := { name := "fnExactMirrorWeb", fn := fun _ => fun
  | [d] => { results := [.lit (.bool false)], args := [d] }
  | _ => none }
def FnExactMirrorWebWrongFalsely : Prop := fnExactMirrorWebRow.holds Try.pinned (OpenSpec.ofChange fnExactMirrorWebWrong)

/-- 'laws.FnExactLumpsIn': WHATEVER THE INPUT: true; the input reads as it did. -/
def fnExactLumpsInSpec : ChangeSpec := { name := "fnExactLumpsIn", fn := fun _ => fun
  | [d1, d2] => { results := [.lit (.bool true)], args := [d1, d2] }
  | _ => none }
def fnExactLumpsInRow : OpenClaim := { program := "ytaccoonhbilgdaa", sum := "7f9645fb0621dc2b6fe5c3e732a35959cb2245c82fa1853e9e5c7ead7604db7f", func := "loop.example/g01384/laws.FnExactLumpsIn", spec := "fnExactLumpsIn", apart := false }
def FnExactLumpsInSaid : Prop := fnExactLumpsInRow.holds Try.pinned (OpenSpec.ofChange fnExactLumpsInSpec)

/-- ITS FALSE NEIGHBOUR: 'it returns false'. Refute it at one input. -/
def fnExactLumpsInWrong : ChangeSpec := { name := "fnExactLumpsIn", fn := fun _ => fun
  | [d1, d2] => { results := [.lit (.bool false)], args := [d1, d2] }
  | _ => none }
def FnExactLumpsInWrongFalsely : Prop := fnExactLumpsInRow.holds Try.pinned (OpenSpec.ofChange fnExactLumpsInWrong)

/-- 'laws.FnExactPartLump': WHATEVER THE INPUT: true; the input reads as it did. -/
def fnExactPartLumpSpec : ChangeSpec := { name := "fnExactPartLump", fn := fun _ => fun
  | [d1, d2] => { results := [.lit (.bool true)], args := [d1, d2] }
  | _ => none }
def fnExactPartLumpRow : OpenClaim := { program := "ytaccoonhbilgdaa", sum := "7f9645fb0621dc2b6fe5c3e732a35959cb2245c82fa1853e9e5c7ead7604db7f", func := "loop.example/g01384/laws.FnExactPartLump", spec := "fnExactPartLump", apart := false }
def FnExactPartLumpSaid : Prop := fnExactPartLumpRow.holds Try.pinned (OpenSpec.ofChange fnExactPartLumpSpec)

/-- ITS FALSE NEIGHBOUR: 'it returns false'. Refute it at one input. -/
def fnExactPartLumpWrong : ChangeSpec := { name := "fnExactPartLump", fn := fun _ => fun
  | [d1, d2] => { results := [.lit (.bool false)], args := [d1, d2] }
  | _ => none }
def FnExactPartLumpWrongFalsely : Prop := fnExactPartLumpRow.holds Try.pinned (OpenSpec.ofChange fnExactPartLumpWrong)

/-- 'laws.FnExactPartAll': WHATEVER THE INPUT: true; the input reads as it did. -/
def fnExactPartAllSpec : ChangeSpec := { name := "fnExactPartAll", fn := fun _ => fun
  | [d1, d2, d3] => { results := [.lit (.bool true)], args := [d1, d2, d3] }
  | _ => none }
def fnExactPartAllRow : OpenClaim := { program := "ytaccoonhbilgdaa", sum := "7f9645fb0621dc2b6fe5c3e732a35959cb2245c82fa1853e9e5c7ead7604db7f", func := "loop.example/g01384/laws.FnExactPartAll", spec := "fnExactPartAll", apart := false }
def FnExactPartAllSaid : Prop := fnExactPartAllRow.holds Try.pinned (OpenSpec.ofChange fnExactPartAllSpec)

/-- ITS FALSE NEIGHBOUR: 'it returns false'. Refute it at one input. -/
def fnExactPartAllWrong : ChangeSpec := { name := "fnExactPartAll", fn := fun _ => fun
  | [d1, d2, d3] => { results := [.lit (.bool false)], args := [d1, d2, d3] }
  | _ => none }
def FnExactPartAllWrongFalsely : Prop := fnExactPartAllRow.holds Try.pinned (OpenSpec.ofChange fnExactPartAllWrong)

/- THE SECOND FORM. 'bulk': how many values and letters a reading holds, each counted each time it is reached (what is shared counts as often as it is met; a slice's spare places count too). A statement '..UptoSaid' is the law's where the arguments, and the package variables that the reading takes, are together of bulk at most 1048576: NARROWER than '..Said'. Prove '..Said' where nothing that the law and all that it calls make is longer than what came in: it says more and counts as full. Else prove '..UptoSaid'. A law counts once. -/
mutual
def uptoBulk {H : Type} : DataW H → Nat
  | .lit (.string bytes) => bytes.length + 1
  | .lit _ => 1
  | .nil => 1
  | .ptr d => uptoBulk d + 1
  | .slice elems spare => uptoBulkAll elems + uptoBulkAll spare + 1
  | .agg parts => uptoBulkAll parts + 1
  | .iface _ d => uptoBulk d + 1
  | .map entries => uptoBulkEntries entries + 1
  | .held _ => 1
def uptoBulkAll {H : Type} : List (DataW H) → Nat
  | [] => 0
  | d :: r => uptoBulk d + uptoBulkAll r
def uptoBulkEntries {H : Type} : List (Lit × DataW H) → Nat
  | [] => 0
  | x :: r => uptoBulkEntry x + uptoBulkEntries r
def uptoBulkEntry {H : Type} : Lit × DataW H → Nat
  | (.string bytes, d) => bytes.length + uptoBulk d + 1
  | (_, d) => uptoBulk d + 1
 end
def uptoSmall : (H : Type) → List (DataW H) → Bool := fun _ ds => decide (uptoBulkAll ds ≤ 1048576)
def OpenSpec.upto (s : _root_.Go.ChangeSpec) : _root_.Go.OpenSpec := { _root_.Go.OpenSpec.ofChange s with cond := some uptoSmall }

/-- 'laws.FnExactValidWeb', WHERE WHAT IT READS IS OF BULK AT MOST 1048576: true; the input reads as it did. -/
def fnExactValidWebUptoRow : OpenClaim := { program := "ytaccoonhbilgdaa", sum := "7f9645fb0621dc2b6fe5c3e732a35959cb2245c82fa1853e9e5c7ead7604db7f", func := "loop.example/g01384/laws.FnExactValidWeb", spec := "fnExactValidWeb", apart := false, narrowed := true }
def FnExactValidWebUptoSaid : Prop := fnExactValidWebUptoRow.holds Try.pinned (OpenSpec.upto fnExactValidWebSpec)

/-- 'laws.FnExactTotalOf', WHERE WHAT IT READS IS OF BULK AT MOST 1048576: true; the input reads as it did. -/
def fnExactTotalOfUptoRow : OpenClaim := { program := "ytaccoonhbilgdaa", sum := "7f9645fb0621dc2b6fe5c3e732a35959cb2245c82fa1853e9e5c7ead7604db7f", func := "loop.example/g01384/laws.FnExactTotalOf", spec := "fnExactTotalOf", apart := false, narrowed := true }
def FnExactTotalOfUptoSaid : Prop := fnExactTotalOfUptoRow.holds Try.pinned (OpenSpec.upto fnExactTotalOfSpec)

/-- 'laws.FnExactSpreadOf', WHERE WHAT IT READS IS OF BULK AT MOST 1048576: true; the input reads as it did. -/
def fnExactSpreadOfUptoRow : OpenClaim := { program := "ytaccoonhbilgdaa", sum := "7f9645fb0621dc2b6fe5c3e732a35959cb2245c82fa1853e9e5c7ead7604db7f", func := "loop.example/g01384/laws.FnExactSpreadOf", spec := "fnExactSpreadOf", apart := false, narrowed := true }
def FnExactSpreadOfUptoSaid : Prop := fnExactSpreadOfUptoRow.holds Try.pinned (OpenSpec.upto fnExactSpreadOfSpec)

/-- 'laws.FnExactUnevenness', WHERE WHAT IT READS IS OF BULK AT MOST 1048576: true; the input reads as it did. -/
def fnExactUnevennessUptoRow : OpenClaim := { program := "ytaccoonhbilgdaa", sum := "7f9645fb0621dc2b6fe5c3e732a35959cb2245c82fa1853e9e5c7ead7604db7f", func := "loop.example/g01384/laws.FnExactUnevenness", spec := "fnExactUnevenness", apart := false, narrowed := true }
def FnExactUnevennessUptoSaid : Prop := fnExactUnevennessUptoRow.holds Try.pinned (OpenSpec.upto fnExactUnevennessSpec)

/-- 'laws.FnExactFoldWeb', WHERE WHAT IT READS IS OF BULK AT MOST 1048576: true; the input reads as it did. -/
def fnExactFoldWebUptoRow : OpenClaim := { program := "ytaccoonhbilgdaa", sum := "7f9645fb0621dc2b6fe5c3e732a35959cb2245c82fa1853e9e5c7ead7604db7f", func := "loop.example/g01384/laws.FnExactFoldWeb", spec := "fnExactFoldWeb", unfollowed := true, recurses := true, apart := false, narrowed := true }
def FnExactFoldWebUptoSaid : Prop := fnExactFoldWebUptoRow.holds Try.pinned (OpenSpec.upto fnExactFoldWebSpec)

/-- 'laws.FnExactCrossWeb', WHERE WHAT IT READS IS OF BULK AT MOST 1048576: true; the input reads as it did. -/
def fnExactCrossWebUptoRow : OpenClaim := { program := "ytaccoonhbilgdaa", sum := "7f9645fb0621dc2b6fe5c3e732a35959cb2245c82fa1853e9e5c7ead7604db7f", func := "loop.example/g01384/laws.FnExactCrossWeb", spec := "fnExactCrossWeb", unfollowed := true, recurses := true, apart := false, narrowed := true }
def FnExactCrossWebUptoSaid : Prop := fnExactCrossWebUptoRow.holds Try.pinned (OpenSpec.upto fnExactCrossWebSpec)

/-- 'laws.FnExactRollWeb', WHERE WHAT IT READS IS OF BULK AT MOST 1048576: true; the input reads as it did. -/
def fnExactRollWebUptoRow : OpenClaim := { program := "ytaccoonhbilgdaa", sum := "7f9645fb0621dc2b6fe5c3e732a35959cb2245c82fa1853e9e5c7ead7604db7f", func := "loop.example/g01384/laws.FnExactRollWeb", spec := "fnExactRollWeb", apart := false, narrowed := true }
def FnExactRollWebUptoSaid : Prop := fnExactRollWebUptoRow.holds Try.pinned (OpenSpec.upto fnExactRollWebSpec)

/-- 'laws.FnExactDrawOut', WHERE WHAT IT READS IS OF BULK AT MOST 1048576: true; the input reads as it did. -/
def fnExactDrawOutUptoRow : OpenClaim := { program := "ytaccoonhbilgdaa", sum := "7f9645fb0621dc2b6fe5c3e732a35959cb2245c82fa1853e9e5c7ead7604db7f", func := "loop.example/g01384/laws.FnExactDrawOut", spec := "fnExactDrawOut", apart := false, narrowed := true }
def FnExactDrawOutUptoSaid : Prop := fnExactDrawOutUptoRow.holds Try.pinned (OpenSpec.upto fnExactDrawOutSpec)

/-- 'laws.FnExactMirrorWeb', WHERE WHAT IT READS IS OF BULK AT MOST 1048576: true; the input reads as it did. -/
def fnExactMirrorWebUptoRow : OpenClaim := { program := "ytaccoonhbilgdaa", sum := "7f9645fb0621dc2b6fe5c3e732a35959cb2245c82fa1853e9e5c7ead7604db7f", func := "loop.example/g01384/laws.FnExactMirrorWeb", spec := "fnExactMirrorWeb", unfollowed := true, recurses := true, apart := false, narrowed := true }
def FnExactMirrorWebUptoSaid : Prop := fnExactMirrorWebUptoRow.holds Try.pinned (OpenSpec.upto fnExactMirrorWebSpec)

/-- 'laws.FnExactLumpsIn', WHERE WHAT IT READS IS OF BULK AT MOST 1048576: true; the input reads as it did. -/
def fnExactLumpsInUptoRow : OpenClaim := { program := "ytaccoonhbilgdaa", sum := "7f9645fb0621dc2b6fe5c3e732a35959cb2245c82fa1853e9e5c7ead7604db7f", func := "loop.example/g01384/laws.FnExactLumpsIn", spec := "fnExactLumpsIn", apart := false, narrowed := true }
def FnExactLumpsInUptoSaid : Prop := fnExactLumpsInUptoRow.holds Try.pinned (OpenSpec.upto fnExactLumpsInSpec)

/-- 'laws.FnExactPartLump', WHERE WHAT IT READS IS OF BULK AT MOST 1048576: true; the input reads as it did. -/
def fnExactPartLumpUptoRow : OpenClaim := { program := "ytaccoonhbilgdaa", sum := "7f9645fb0621dc2b6fe5c3e732a35959cb2245c82fa1853e9e5c7ead7604db7f", func := "loop.example/g01384/laws.FnExactPartLump", spec := "fnExactPartLump", apart := false, narrowed := true }
def FnExactPartLumpUptoSaid : Prop := fnExactPartLumpUptoRow.holds Try.pinned (OpenSpec.upto fnExactPartLumpSpec)

/-- 'laws.FnExactPartAll', WHERE WHAT IT READS IS OF BULK AT MOST 1048576: true; the input reads as it did. -/
def fnExactPartAllUptoRow : OpenClaim := { program := "ytaccoonhbilgdaa", sum := "7f9645fb0621dc2b6fe5c3e732a35959cb2245c82fa1853e9e5c7ead7604db7f", func := "loop.example/g01384/laws.FnExactPartAll", spec := "fnExactPartAll", apart := false, narrowed := true }
def FnExactPartAllUptoSaid : Prop := fnExactPartAllUptoRow.holds Try.pinned (OpenSpec.upto fnExactPartAllSpec)

end Rows
end Go.Proofs.Ytaccoonhbilgdaa
