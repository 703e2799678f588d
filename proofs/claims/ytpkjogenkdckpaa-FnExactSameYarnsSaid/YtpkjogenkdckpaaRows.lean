/-
  No cell of these rows narrows 'for every input' (looked for: loops, veiled, ifaces, maps, wideKeys, modest, calm, conditions, laid).
  DERIVED. THE GIVEN ROWS OF THIS SEAT. 4 by the template 'for every input the law returns true; each argument reads behind the call as it read before'; 0 by the template 'total and deterministic' (their statements: YtpkjogenkdckpaaTotals.lean).
  GIVEN WITH THE SEED: the statements are not yours to turn. If you find one false, say at which input.
  Laid BY PROGRAM, IN A SANDBOX (cutbox-rows.mjs): the forced cells as the released guide's own fill.sh prints them over the translation b5f3003451abb646… (all of the seat's roots in one cut). By AI agents, Wed Nov 11 2026. No macro, syntax, notation, axiom, sorry.
-/
import Derived.Test.YtpkjogenkdckpaaChecked
import GoSem.Claim
import GoSem.ClaimJoined
import GoSem.ClaimMapViews
import Derived.JoinedTies
import Derived.KernelRfl
namespace Go.Proofs.Ytpkjogenkdckpaa
/- THE CELL 'sum', in the pinned program and in every row, IS THE sha256 OF THE DUMP (.gsa) THAT YtpkjogenkdckpaaProg.lean LOADS. Nothing in Lean hashes anything: it is a label: what it is worth is what the hold of that sum in a sandbox is worth. -/
noncomputable def Try.pinned : Pinned := { name := "ytpkjogenkdckpaa", sum := "b5f3003451abb646349b04476593d1298e47444d1e6325f92a461609032ae58f", checked := Try.checked }
namespace Rows
def none {H : Type} : Left H := { results := [], args := [] }

/-- 'laws.FnExactValidYarn': WHATEVER THE INPUT: true; the input reads as it did. -/
def fnExactValidYarnSpec : ChangeSpec := { name := "fnExactValidYarn", fn := fun _ => fun
  | [d] => { results := [.lit (.bool true)], args := [d] }
  | _ => none }
def fnExactValidYarnRow : OpenClaim := { program := "ytpkjogenkdckpaa", sum := "b5f3003451abb646349b04476593d1298e47444d1e6325f92a461609032ae58f", func := "loop.example/g01384/laws.FnExactValidYarn", spec := "fnExactValidYarn", apart := false }
def FnExactValidYarnSaid : Prop := fnExactValidYarnRow.holds Try.pinned (OpenSpec.ofChange fnExactValidYarnSpec)

/-- ITS FALSE NEIGHBOUR: 'it returns false'. Refute it at one input. -/
def fnExactValidYarnWrong : ChangeSpec := { name := "fnExactValidYarn", fn := fun _ => fun
  | [d] => { results := [.lit (.bool false)], args := [d] }
  | _ => none }
def FnExactValidYarnWrongFalsely : Prop := fnExactValidYarnRow.holds Try.pinned (OpenSpec.ofChange fnExactValidYarnWrong)

/-- 'laws.FnExactSameYarns': WHATEVER THE INPUT: true; the input reads as it did. -/
def fnExactSameYarnsSpec : ChangeSpec := { name := "fnExactSameYarns", fn := fun _ => fun
  | [d1, d2] => { results := [.lit (.bool true)], args := [d1, d2] }
  | _ => none }
def fnExactSameYarnsRow : OpenClaim := { program := "ytpkjogenkdckpaa", sum := "b5f3003451abb646349b04476593d1298e47444d1e6325f92a461609032ae58f", func := "loop.example/g01384/laws.FnExactSameYarns", spec := "fnExactSameYarns", apart := false }
def FnExactSameYarnsSaid : Prop := fnExactSameYarnsRow.holds Try.pinned (OpenSpec.ofChange fnExactSameYarnsSpec)

/-- ITS FALSE NEIGHBOUR: 'it returns false'. Refute it at one input. -/
def fnExactSameYarnsWrong : ChangeSpec := { name := "fnExactSameYarns", fn := fun _ => fun
  | [d1, d2] => { results := [.lit (.bool false)], args := [d1, d2] }
  | _ => none }
def FnExactSameYarnsWrongFalsely : Prop := fnExactSameYarnsRow.holds Try.pinned (OpenSpec.ofChange fnExactSameYarnsWrong)

/-- 'laws.FnExactCountOf': WHATEVER THE INPUT: true; the input reads as it did. -/
def fnExactCountOfSpec : ChangeSpec := { name := "fnExactCountOf", fn := fun _ => fun
  | [d] => { results := [.lit (.bool true)], args := [d] }
  | _ => none }
def fnExactCountOfRow : OpenClaim := { program := "ytpkjogenkdckpaa", sum := "b5f3003451abb646349b04476593d1298e47444d1e6325f92a461609032ae58f", func := "loop.example/g01384/laws.FnExactCountOf", spec := "fnExactCountOf", apart := false }
def FnExactCountOfSaid : Prop := fnExactCountOfRow.holds Try.pinned (OpenSpec.ofChange fnExactCountOfSpec)

/-- ITS FALSE NEIGHBOUR: 'it returns false'. Refute it at one input. -/
def fnExactCountOfWrong : ChangeSpec := { name := "fnExactCountOf", fn := fun _ => fun
  | [d] => { results := [.lit (.bool false)], args := [d] }
  | _ => none }
def FnExactCountOfWrongFalsely : Prop := fnExactCountOfRow.holds Try.pinned (OpenSpec.ofChange fnExactCountOfWrong)

/-- 'laws.FnExactTwistRate': WHATEVER THE INPUT: true; the input reads as it did. -/
def fnExactTwistRateSpec : ChangeSpec := { name := "fnExactTwistRate", fn := fun _ => fun
  | [d] => { results := [.lit (.bool true)], args := [d] }
  | _ => none }
def fnExactTwistRateRow : OpenClaim := { program := "ytpkjogenkdckpaa", sum := "b5f3003451abb646349b04476593d1298e47444d1e6325f92a461609032ae58f", func := "loop.example/g01384/laws.FnExactTwistRate", spec := "fnExactTwistRate", apart := false }
def FnExactTwistRateSaid : Prop := fnExactTwistRateRow.holds Try.pinned (OpenSpec.ofChange fnExactTwistRateSpec)

/-- ITS FALSE NEIGHBOUR: 'it returns false'. Refute it at one input. -/
def fnExactTwistRateWrong : ChangeSpec := { name := "fnExactTwistRate", fn := fun _ => fun
  | [d] => { results := [.lit (.bool false)], args := [d] }
  | _ => none }
def FnExactTwistRateWrongFalsely : Prop := fnExactTwistRateRow.holds Try.pinned (OpenSpec.ofChange fnExactTwistRateWrong)

/- THE SECOND FORM. 'bulk': how many values and letters a reading holds, each counted each time it is reached (what is shared counts as often as it is met; a slice's spare places count too). A statement '..UptoSaid' is the law's where the arguments, and the package variables that the reading takes, are together of bulk at most 1048576: NARROWER than '..Said'. Prove '..Said' where nothing that the law and all that it calls make is longer than what came in: it says more and counts as full. Else prove '..UptoSaid'. A law counts once. -/
mutual
def uptoBulk {H : Type} : DataW H → Nat
  | .lit (.string bytes) => bytes.length + 1
  | .lit _ => 1
  | .nil => 1
  | .ptr d => uptoBulk d + 1
  | .slice elems spare => uptoBulkAll elems + uptoBulkAll spare + 1
  | .agg parts => uptoBulkAll parts + 1
  | .iface _ d => uptoBulk d + 1
  | .map entries => uptoBulkEntries entries + 1
  | .held _ => 1
def uptoBulkAll {H : Type} : List (DataW H) → Nat
  | [] => 0
  | d :: r => uptoBulk d + uptoBulkAll r
def uptoBulkEntries {H : Type} : List (Lit × DataW H) → Nat
  | [] => 0
  | x :: r => uptoBulkEntry x + uptoBulkEntries r
def uptoBulkEntry {H : Type} : Lit × DataW H → Nat
  | (.string bytes, d) => bytes.length + uptoBulk d + 1
  | (_, d) => uptoBulk d + 1
 end
def uptoSmall : (H : Type) → List (DataW H) → Bool := fun _ ds => decide (uptoBulkAll ds ≤ 1048576)
def OpenSpec.upto (s : _root_.Go.ChangeSpec) : _root_.Go.OpenSpec := { _root_.Go.OpenSpec.ofChange s with cond := some uptoSmall }

/-- 'laws.FnExactValidYarn', WHERE WHAT IT READS IS OF BULK AT MOST 1048576: true; the input reads as it did. -/
def fnExactValidYarnUptoRow : OpenClaim := { program := "ytpkjogenkdckpaa", sum := "b5f3003451abb646349b04476593d1298e47444d1e6325f92a461609032ae58f", func := "loop.example/g01384/laws.FnExactValidYarn", spec := "fnExactValidYarn", apart := false, narrowed := true }
def FnExactValidYarnUptoSaid : Prop := fnExactValidYarnUptoRow.holds Try.pinned (OpenSpec.upto fnExactValidYarnSpec)

/-- 'laws.FnExactSameYarns', WHERE WHAT IT READS IS OF BULK AT MOST 1048576: true; the input reads as it did. -/
def fnExactSameYarnsUptoRow : OpenClaim := { program := "ytpkjogenkdckpaa", sum := "b5f3003451abb646349b04476593d1298e47444d1e6325f92a461609032ae58f", func := "loop.example/g01384/laws.FnExactSameYarns", spec := "fnExactSameYarns", apart := false, narrowed := true }
def FnExactSameYarnsUptoSaid : Prop := fnExactSameYarnsUptoRow.holds Try.pinned (OpenSpec.upto fnExactSameYarnsSpec)

/-- 'laws.FnExactCountOf', WHERE WHAT IT READS IS OF BULK AT MOST 1048576: true; the input reads as it did. -/
def fnExactCountOfUptoRow : OpenClaim := { program := "ytpkjogenkdckpaa", sum := "b5f3003451abb646349b04476593d1298e47444d1e6325f92a461609032ae58f", func := "loop.example/g01384/laws.FnExactCountOf", spec := "fnExactCountOf", apart := false, narrowed := true }
def FnExactCountOfUptoSaid : Prop := fnExactCountOfUptoRow.holds Try.pinned (OpenSpec.upto fnExactCountOfSpec)

/-- 'laws.FnExactTwistRate', WHERE WHAT IT READS IS OF BULK AT MOST 1048576: true; the input reads as it did. -/
def fnExactTwistRateUptoRow : OpenClaim := { program := "ytpkjogenkdckpaa", sum := "b5f3003451abb646349b04476593d1298e47444d1e6325f92a461609032ae58f", func := "loop.example/g01384/laws.FnExactTwistRate", spec := "fnExactTwistRate", apart := false, narrowed := true }
def FnExactTwistRateUptoSaid : Prop := fnExactTwistRateUptoRow.holds Try.pinned (OpenSpec.upto fnExactTwistRateSpec)

end Rows
end Go.Proofs.Ytpkjogenkdckpaa
