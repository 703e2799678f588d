/-
  No cell of these rows narrows 'for every input' (looked for: loops, veiled, ifaces, maps, wideKeys, modest, calm, conditions, laid).
  DERIVED. THE GIVEN ROWS OF THIS SEAT. 2 by the template 'for every input the law returns true; each argument reads behind the call as it read before'; 0 by the template 'total and deterministic' (their statements: YtopfehbdnopokaaTotals.lean).
  GIVEN WITH THE SEED: the statements are not yours to turn. If you find one false, say at which input.
  Laid BY PROGRAM, IN A SANDBOX (cutbox-rows.mjs): the forced cells as the released guide's own fill.sh prints them over the translation 04421f0916c5da6c… (all of the seat's roots in one cut). By AI agents, Wed Nov 11 2026. No macro, syntax, notation, axiom, sorry.
-/
import Derived.Test.YtopfehbdnopokaaChecked
import GoSem.Claim
import GoSem.ClaimJoined
import GoSem.ClaimMapViews
import Derived.JoinedTies
import Derived.KernelRfl
namespace Go.Proofs.Ytopfehbdnopokaa
/- THE CELL 'sum', in the pinned program and in every row, IS THE sha256 OF THE DUMP (.gsa) THAT YtopfehbdnopokaaProg.lean LOADS. Nothing in Lean hashes anything: it is a label: what it is worth is what the hold of that sum in a sandbox is worth. -/
noncomputable def Try.pinned : Pinned := { name := "ytopfehbdnopokaa", sum := "04421f0916c5da6c67a447f2cc819c7c437382220adcded6823923440f092750", checked := Try.checked }
namespace Rows
def none {H : Type} : Left H := { results := [], args := [] }

/-- 'laws.FnExactReadHoles': WHATEVER THE INPUT: true; the input reads as it did. -/
def fnExactReadHolesSpec : ChangeSpec := { name := "fnExactReadHoles", fn := fun _ => fun
  | [d] => { results := [.lit (.bool true)], args := [d] }
  | _ => none }
def fnExactReadHolesRow : OpenClaim := { program := "ytopfehbdnopokaa", sum := "04421f0916c5da6c67a447f2cc819c7c437382220adcded6823923440f092750", func := "loop.example/g01384/laws.FnExactReadHoles", spec := "fnExactReadHoles", inPlace := ["internal/abi.NoEscape"], unfollowed := true, recurses := true, apart := false }
def FnExactReadHolesSaid : Prop := fnExactReadHolesRow.holds Try.pinned (OpenSpec.ofChange fnExactReadHolesSpec)

/-- ITS FALSE NEIGHBOUR: 'it returns false'. Refute it at one input. -/
def fnExactReadHolesWrong : ChangeSpec := { name := "fnExactReadHoles", fn := fun _ => fun
  | [d] => { results := [.lit (.bool false)], args := [d] }
  | _ => none }
def FnExactReadHolesWrongFalsely : Prop := fnExactReadHolesRow.holds Try.pinned (OpenSpec.ofChange fnExactReadHolesWrong)

/-- 'laws.FnExactSpotsIn': WHATEVER THE INPUT: true; the input reads as it did. -/
def fnExactSpotsInSpec : ChangeSpec := { name := "fnExactSpotsIn", fn := fun _ => fun
  | [d] => { results := [.lit (.bool true)], args := [d] }
  | _ => none }
def fnExactSpotsInRow : OpenClaim := { program := "ytopfehbdnopokaa", sum := "04421f0916c5da6c67a447f2cc819c7c437382220adcded6823923440f092750", func := "loop.example/g01384/laws.FnExactSpotsIn", spec := "fnExactSpotsIn", unfollowed := true, recurses := true, apart := false }
def FnExactSpotsInSaid : Prop := fnExactSpotsInRow.holds Try.pinned (OpenSpec.ofChange fnExactSpotsInSpec)

/-- ITS FALSE NEIGHBOUR: 'it returns false'. Refute it at one input. -/
def fnExactSpotsInWrong : ChangeSpec := { name := "fnExactSpotsIn", fn := fun _ => fun
  | [d] => { results := [.lit (.bool false)], args := [d] }
  | _ => none }
def FnExactSpotsInWrongFalsely : Prop := fnExactSpotsInRow.holds Try.pinned (OpenSpec.ofChange fnExactSpotsInWrong)

/- THE SECOND FORM. 'bulk': how many values and letters a reading holds, each counted each time it is reached (what is shared counts as often as it is met; a slice's spare places count too). A statement '..UptoSaid' is the law's where the arguments, and the package variables that the reading takes, are together of bulk at most 1048576: NARROWER than '..Said'. Prove '..Said' where nothing that the law and all that it calls make is longer than what came in: it says more and counts as full. Else prove '..UptoSaid'. A law counts once. -/
mutual
def uptoBulk {H : Type} : DataW H → Nat
  | .lit (.string bytes) => bytes.length + 1
  | .lit _ => 1
  | .nil => 1
  | .ptr d => uptoBulk d + 1
  | .slice elems spare => uptoBulkAll elems + uptoBulkAll spare + 1
  | .agg parts => uptoBulkAll parts + 1
  | .iface _ d => uptoBulk d + 1
  | .map entries => uptoBulkEntries entries + 1
  | .held _ => 1
def uptoBulkAll {H : Type} : List (DataW H) → Nat
  | [] => 0
  | d :: r => uptoBulk d + uptoBulkAll r
def uptoBulkEntries {H : Type} : List (Lit × DataW H) → Nat
  | [] => 0
  | x :: r => uptoBulkEntry x + uptoBulkEntries r
def uptoBulkEntry {H : Type} : Lit × DataW H → Nat
  | (.string bytes, d) => bytes.length + uptoBulk d + 1
  | (_, d) => uptoBulk d + 1
 end
def uptoSmall : (H : Type) → List (DataW H) → Bool := fun _ ds => decide (uptoBulkAll ds ≤ 1048576)
def OpenSpec.upto (s : _root_.Go.ChangeSpec) : _root_.Go.OpenSpec := { _root_.Go.OpenSpec.ofChange s with cond := some uptoSmall }

/-- 'laws.FnExactReadHoles', WHERE WHAT IT READS IS OF BULK AT MOST 1048576: true; the input reads as it did. -/
def fnExactReadHolesUptoRow : OpenClaim := { program := "ytopfehbdnopokaa", sum := "04421f0916c5da6c67a447f2cc819c7c437382220adcded6823923440f092750", func := "loop.example/g01384/laws.FnExactReadHoles", spec := "fnExactReadHoles", inPlace := ["internal/abi.NoEscape"], unfollowed := true, recurses := true, apart := false, narrowed := true }
def FnExactReadHolesUptoSaid : Prop := fnExactReadHolesUptoRow.holds Try.pinned (OpenSpec.upto fnExactReadHolesSpec)

/-- 'laws.FnExactSpotsIn', WHERE WHAT IT READS IS OF BULK AT MOST 1048576: true; the input reads as it did. -/
def fnExactSpotsInUptoRow : OpenClaim := { program := "ytopfehbdnopokaa", sum := "04421f0916c5da6c67a447f2cc819c7c437382220adcded6823923440f092750", func := "loop.example/g01384/laws.FnExactSpotsIn", spec := "fnExactSpotsIn", unfollowed := true, recurses := true, apart := false, narrowed := true }
def FnExactSpotsInUptoSaid : Prop := fnExactSpotsInUptoRow.holds Try.pinned (OpenSpec.upto fnExactSpotsInSpec)

end Rows
end Go.Proofs.Ytopfehbdnopokaa
