/-
  NARROWER THAN 'FOR EVERY INPUT', by the rows' own cells (each row's printed sentence says how): FnExactSpinHeap: ifaces, laid · FnExactCutYarn: ifaces, laid · FnExactJoinYarns: ifaces, laid · FnExactPlyLong: ifaces, laid · FnExactRestOf: ifaces, laid · FnExactWeakestOf: ifaces, laid · FnExactPlyYarns: ifaces, laid · FnExactCutsFrom: ifaces, laid.
  DERIVED. THE GIVEN ROWS OF THIS SEAT. 8 by the template 'for every input the law returns true; each argument reads behind the call as it read before'; 0 by the template 'total and deterministic' (their statements: YtpkjogenkdckpaaDoorTotals.lean).
  GIVEN WITH THE SEED: the statements are not yours to turn. If you find one false, say at which input.
  Laid BY PROGRAM, IN A SANDBOX (cutbox-rows.mjs): the forced cells as the released guide's own fill.sh prints them over the translation 3ecc185ecc555671… (all of the seat's roots in one cut). By AI agents, Wed Nov 11 2026. No macro, syntax, notation, axiom, sorry.
-/
import Derived.Test.YtpkjogenkdckpaaDoorChecked
import GoSem.Claim
import GoSem.ClaimJoined
import GoSem.ClaimMapViews
import Derived.JoinedTies
import Derived.KernelRfl
namespace Go.Proofs.YtpkjogenkdckpaaDoor
/- THE CELL 'sum', in the pinned program and in every row, IS THE sha256 OF THE DUMP (.gsa) THAT YtpkjogenkdckpaaDoorProg.lean LOADS. Nothing in Lean hashes anything: it is a label: what it is worth is what the hold of that sum in a sandbox is worth. -/
noncomputable def Tryd.pinned : Pinned := { name := "ytpkjogenkdckpaadoor", sum := "3ecc185ecc555671731dca898e4d6b633bd00b0f4e4fa9003a5248b2527afce6", checked := Tryd.checked }
namespace Rows
def none {H : Type} : Left H := { results := [], args := [] }

/- WHAT THE LISTED PACKAGE-LEVEL VARIABLES READ AS WHEN THE CALL BEGINS. Each datum BY PROGRAM (the guide's laid-datum.mjs) off the statement by which the dump's own 'gosem.cut.vars' lays the variable. In a bare row this is a premise. The card (YtpkjogenkdckpaaDoorCards.lean) ties it to the program's text. -/
def laid_loop_example_g01384_impl_errNotValid {H : Type} : DataW H := .iface "*errors.errorString" (.ptr (.agg [.lit (.string [97, 32, 121, 97, 114, 110, 32, 105, 115, 32, 110, 111, 116, 32, 118, 97, 108, 105, 100])]))
def laid_loop_example_g01384_impl_errOutOfRange {H : Type} : DataW H := .iface "*errors.errorString" (.ptr (.agg [.lit (.string [97, 32, 110, 117, 109, 98, 101, 114, 32, 105, 115, 32, 111, 117, 116, 32, 111, 102, 32, 105, 116, 115, 32, 114, 97, 110, 103, 101])]))
def laid_loop_example_g01384_impl_errTooMany {H : Type} : DataW H := .iface "*errors.errorString" (.ptr (.agg [.lit (.string [116, 104, 101, 114, 101, 32, 97, 114, 101, 32, 116, 111, 111, 32, 109, 97, 110, 121])]))
def laid_loop_example_g01384_impl_errNoPlies {H : Type} : DataW H := .iface "*errors.errorString" (.ptr (.agg [.lit (.string [116, 104, 101, 115, 101, 32, 97, 114, 101, 32, 110, 111, 32, 112, 108, 105, 101, 115])]))
def laid_loop_example_g01384_impl_errNothingLeft {H : Type} : DataW H := .iface "*errors.errorString" (.ptr (.agg [.lit (.string [108, 101, 115, 115, 32, 116, 104, 97, 110, 32, 111, 110, 101, 32, 109, 101, 116, 114, 101, 32, 105, 115, 32, 108, 101, 102, 116])]))
def laid_loop_example_g01384_impl_errNoYarn {H : Type} : DataW H := .iface "*errors.errorString" (.ptr (.agg [.lit (.string [116, 104, 105, 115, 32, 105, 115, 32, 110, 111, 32, 116, 101, 120, 116, 32, 111, 102, 32, 97, 32, 121, 97, 114, 110])]))

/-- 'laws.FnExactSpinHeap': WHATEVER THE INPUT: true; the input reads as it did. -/
def fnExactSpinHeapSpec : ChangeSpec := { name := "fnExactSpinHeap", vars := ["loop.example/g01384/impl.errOutOfRange", "loop.example/g01384/impl.errTooMany", "loop.example/g01384/impl.errNotValid", "loop.example/g01384/impl.errNoPlies", "loop.example/g01384/impl.errNoYarn", "loop.example/g01384/impl.errNothingLeft"], fn := fun _ => fun
  | [d1, d2, d3, g1, g2, g3, g4, g5, g6] => { results := [.lit (.bool true)], args := [d1, d2, d3], vars := [g1, g2, g3, g4, g5, g6] }
  | _ => none }
def fnExactSpinHeapRow : OpenClaim := { program := "ytpkjogenkdckpaadoor", sum := "3ecc185ecc555671731dca898e4d6b633bd00b0f4e4fa9003a5248b2527afce6", func := "loop.example/g01384/laws.FnExactSpinHeap", spec := "fnExactSpinHeap", inPlace := ["internal/reflectlite.TypeOf"], unfollowed := true, recurses := true, named := ["loop.example/g01384/impl.errOutOfRange", "loop.example/g01384/impl.errTooMany", "loop.example/g01384/impl.errNotValid", "loop.example/g01384/impl.errNoPlies", "loop.example/g01384/impl.errNoYarn", "loop.example/g01384/impl.errNothingLeft"], ifaces := true, apart := false, laid := [("loop.example/g01384/impl.errNotValid", laid_loop_example_g01384_impl_errNotValid), ("loop.example/g01384/impl.errOutOfRange", laid_loop_example_g01384_impl_errOutOfRange), ("loop.example/g01384/impl.errTooMany", laid_loop_example_g01384_impl_errTooMany), ("loop.example/g01384/impl.errNoPlies", laid_loop_example_g01384_impl_errNoPlies), ("loop.example/g01384/impl.errNothingLeft", laid_loop_example_g01384_impl_errNothingLeft), ("loop.example/g01384/impl.errNoYarn", laid_loop_example_g01384_impl_errNoYarn)] }
def FnExactSpinHeapSaid : Prop := fnExactSpinHeapRow.holds Tryd.pinned (OpenSpec.ofChange fnExactSpinHeapSpec)

/-- ITS FALSE NEIGHBOUR: 'it returns false'. Refute it at one input. -/
def fnExactSpinHeapWrong : ChangeSpec := { name := "fnExactSpinHeap", vars := ["loop.example/g01384/impl.errOutOfRange", "loop.example/g01384/impl.errTooMany", "loop.example/g01384/impl.errNotValid", "loop.example/g01384/impl.errNoPlies", "loop.example/g01384/impl.errNoYarn", "loop.example/g01384/impl.errNothingLeft"], fn := fun _ => fun
  | [d1, d2, d3, g1, g2, g3, g4, g5, g6] => { results := [.lit (.bool false)], args := [d1, d2, d3], vars := [g1, g2, g3, g4, g5, g6] }
  | _ => none }
def FnExactSpinHeapWrongFalsely : Prop := fnExactSpinHeapRow.holds Tryd.pinned (OpenSpec.ofChange fnExactSpinHeapWrong)

/-- 'laws.FnExactCutYarn': WHATEVER THE INPUT: true; the input reads as it did. -/
def fnExactCutYarnSpec : ChangeSpec := { name := "fnExactCutYarn", vars := ["loop.example/g01384/impl.errOutOfRange", "loop.example/g01384/impl.errTooMany", "loop.example/g01384/impl.errNotValid", "loop.example/g01384/impl.errNoPlies", "loop.example/g01384/impl.errNoYarn", "loop.example/g01384/impl.errNothingLeft"], fn := fun _ => fun
  | [d1, d2, g1, g2, g3, g4, g5, g6] => { results := [.lit (.bool true)], args := [d1, d2], vars := [g1, g2, g3, g4, g5, g6] }
  | _ => none }
def fnExactCutYarnRow : OpenClaim := { program := "ytpkjogenkdckpaadoor", sum := "3ecc185ecc555671731dca898e4d6b633bd00b0f4e4fa9003a5248b2527afce6", func := "loop.example/g01384/laws.FnExactCutYarn", spec := "fnExactCutYarn", inPlace := ["internal/reflectlite.TypeOf"], unfollowed := true, recurses := true, named := ["loop.example/g01384/impl.errOutOfRange", "loop.example/g01384/impl.errTooMany", "loop.example/g01384/impl.errNotValid", "loop.example/g01384/impl.errNoPlies", "loop.example/g01384/impl.errNoYarn", "loop.example/g01384/impl.errNothingLeft"], ifaces := true, apart := false, laid := [("loop.example/g01384/impl.errNotValid", laid_loop_example_g01384_impl_errNotValid), ("loop.example/g01384/impl.errOutOfRange", laid_loop_example_g01384_impl_errOutOfRange), ("loop.example/g01384/impl.errTooMany", laid_loop_example_g01384_impl_errTooMany), ("loop.example/g01384/impl.errNoPlies", laid_loop_example_g01384_impl_errNoPlies), ("loop.example/g01384/impl.errNothingLeft", laid_loop_example_g01384_impl_errNothingLeft), ("loop.example/g01384/impl.errNoYarn", laid_loop_example_g01384_impl_errNoYarn)] }
def FnExactCutYarnSaid : Prop := fnExactCutYarnRow.holds Tryd.pinned (OpenSpec.ofChange fnExactCutYarnSpec)

/-- ITS FALSE NEIGHBOUR: 'it returns false'. Refute it at one input. -/
def fnExactCutYarnWrong : ChangeSpec := { name := "fnExactCutYarn", vars := ["loop.example/g01384/impl.errOutOfRange", "loop.example/g01384/impl.errTooMany", "loop.example/g01384/impl.errNotValid", "loop.example/g01384/impl.errNoPlies", "loop.example/g01384/impl.errNoYarn", "loop.example/g01384/impl.errNothingLeft"], fn := fun _ => fun
  | [d1, d2, g1, g2, g3, g4, g5, g6] => { results := [.lit (.bool false)], args := [d1, d2], vars := [g1, g2, g3, g4, g5, g6] }
  | _ => none }
def FnExactCutYarnWrongFalsely : Prop := fnExactCutYarnRow.holds Tryd.pinned (OpenSpec.ofChange fnExactCutYarnWrong)

/-- 'laws.FnExactJoinYarns': WHATEVER THE INPUT: true; the input reads as it did. -/
def fnExactJoinYarnsSpec : ChangeSpec := { name := "fnExactJoinYarns", vars := ["loop.example/g01384/impl.errOutOfRange", "loop.example/g01384/impl.errTooMany", "loop.example/g01384/impl.errNotValid", "loop.example/g01384/impl.errNoPlies", "loop.example/g01384/impl.errNoYarn", "loop.example/g01384/impl.errNothingLeft"], fn := fun _ => fun
  | [d1, d2, g1, g2, g3, g4, g5, g6] => { results := [.lit (.bool true)], args := [d1, d2], vars := [g1, g2, g3, g4, g5, g6] }
  | _ => none }
def fnExactJoinYarnsRow : OpenClaim := { program := "ytpkjogenkdckpaadoor", sum := "3ecc185ecc555671731dca898e4d6b633bd00b0f4e4fa9003a5248b2527afce6", func := "loop.example/g01384/laws.FnExactJoinYarns", spec := "fnExactJoinYarns", inPlace := ["internal/reflectlite.TypeOf"], unfollowed := true, recurses := true, named := ["loop.example/g01384/impl.errOutOfRange", "loop.example/g01384/impl.errTooMany", "loop.example/g01384/impl.errNotValid", "loop.example/g01384/impl.errNoPlies", "loop.example/g01384/impl.errNoYarn", "loop.example/g01384/impl.errNothingLeft"], ifaces := true, apart := false, laid := [("loop.example/g01384/impl.errNotValid", laid_loop_example_g01384_impl_errNotValid), ("loop.example/g01384/impl.errOutOfRange", laid_loop_example_g01384_impl_errOutOfRange), ("loop.example/g01384/impl.errTooMany", laid_loop_example_g01384_impl_errTooMany), ("loop.example/g01384/impl.errNoPlies", laid_loop_example_g01384_impl_errNoPlies), ("loop.example/g01384/impl.errNothingLeft", laid_loop_example_g01384_impl_errNothingLeft), ("loop.example/g01384/impl.errNoYarn", laid_loop_example_g01384_impl_errNoYarn)] }
def FnExactJoinYarnsSaid : Prop := fnExactJoinYarnsRow.holds Tryd.pinned (OpenSpec.ofChange fnExactJoinYarnsSpec)

/-- ITS FALSE NEIGHBOUR: 'it returns false'. Refute it at one input. -/
def fnExactJoinYarnsWrong : ChangeSpec := { name := "fnExactJoinYarns", vars := ["loop.example/g01384/impl.errOutOfRange", "loop.example/g01384/impl.errTooMany", "loop.example/g01384/impl.errNotValid", "loop.example/g01384/impl.errNoPlies", "loop.example/g01384/impl.errNoYarn", "loop.example/g01384/impl.errNothingLeft"], fn := fun _ => fun
  | [d1, d2, g1, g2, g3, g4, g5, g6] => { results := [.lit (.bool false)], args := [d1, d2], vars := [g1, g2, g3, g4, g5, g6] }
  | _ => none }
def FnExactJoinYarnsWrongFalsely : Prop := fnExactJoinYarnsRow.holds Tryd.pinned (OpenSpec.ofChange fnExactJoinYarnsWrong)

/-- 'laws.FnExactPlyLong': WHATEVER THE INPUT: true; the input reads as it did. -/
def fnExactPlyLongSpec : ChangeSpec := { name := "fnExactPlyLong", vars := ["loop.example/g01384/impl.errNothingLeft", "loop.example/g01384/impl.errNoPlies", "loop.example/g01384/impl.errOutOfRange", "loop.example/g01384/impl.errTooMany", "loop.example/g01384/impl.errNotValid", "loop.example/g01384/impl.errNoYarn"], fn := fun _ => fun
  | [d1, d2, g1, g2, g3, g4, g5, g6] => { results := [.lit (.bool true)], args := [d1, d2], vars := [g1, g2, g3, g4, g5, g6] }
  | _ => none }
def fnExactPlyLongRow : OpenClaim := { program := "ytpkjogenkdckpaadoor", sum := "3ecc185ecc555671731dca898e4d6b633bd00b0f4e4fa9003a5248b2527afce6", func := "loop.example/g01384/laws.FnExactPlyLong", spec := "fnExactPlyLong", inPlace := ["internal/reflectlite.TypeOf"], unfollowed := true, recurses := true, named := ["loop.example/g01384/impl.errNothingLeft", "loop.example/g01384/impl.errNoPlies", "loop.example/g01384/impl.errOutOfRange", "loop.example/g01384/impl.errTooMany", "loop.example/g01384/impl.errNotValid", "loop.example/g01384/impl.errNoYarn"], ifaces := true, apart := false, laid := [("loop.example/g01384/impl.errNotValid", laid_loop_example_g01384_impl_errNotValid), ("loop.example/g01384/impl.errOutOfRange", laid_loop_example_g01384_impl_errOutOfRange), ("loop.example/g01384/impl.errTooMany", laid_loop_example_g01384_impl_errTooMany), ("loop.example/g01384/impl.errNoPlies", laid_loop_example_g01384_impl_errNoPlies), ("loop.example/g01384/impl.errNothingLeft", laid_loop_example_g01384_impl_errNothingLeft), ("loop.example/g01384/impl.errNoYarn", laid_loop_example_g01384_impl_errNoYarn)] }
def FnExactPlyLongSaid : Prop := fnExactPlyLongRow.holds Tryd.pinned (OpenSpec.ofChange fnExactPlyLongSpec)

/-- ITS FALSE NEIGHBOUR: 'it returns false'. Refute it at one input. -/
def fnExactPlyLongWrong : ChangeSpec := { name := "fnExactPlyLong", vars := ["loop.example/g01384/impl.errNothingLeft", "loop.example/g01384/impl.errNoPlies", "loop.example/g01384/impl.errOutOfRange", "loop.example/g01384/impl.errTooMany", "loop.example/g01384/impl.errNotValid", "loop.example/g01384/impl.errNoYarn"], fn := fun _ => fun
  | [d1, d2, g1, g2, g3, g4, g5, g6] => { results := [.lit (.bool false)], args := [d1, d2], vars := [g1, g2, g3, g4, g5, g6] }
  | _ => none }
def FnExactPlyLongWrongFalsely : Prop := fnExactPlyLongRow.holds Tryd.pinned (OpenSpec.ofChange fnExactPlyLongWrong)

/-- 'laws.FnExactRestOf': WHATEVER THE INPUT: true; the input reads as it did. -/
def fnExactRestOfSpec : ChangeSpec := { name := "fnExactRestOf", vars := ["loop.example/g01384/impl.errNoPlies", "loop.example/g01384/impl.errOutOfRange", "loop.example/g01384/impl.errTooMany", "loop.example/g01384/impl.errNotValid", "loop.example/g01384/impl.errNoYarn", "loop.example/g01384/impl.errNothingLeft"], fn := fun _ => fun
  | [d1, d2, g1, g2, g3, g4, g5, g6] => { results := [.lit (.bool true)], args := [d1, d2], vars := [g1, g2, g3, g4, g5, g6] }
  | _ => none }
def fnExactRestOfRow : OpenClaim := { program := "ytpkjogenkdckpaadoor", sum := "3ecc185ecc555671731dca898e4d6b633bd00b0f4e4fa9003a5248b2527afce6", func := "loop.example/g01384/laws.FnExactRestOf", spec := "fnExactRestOf", inPlace := ["internal/reflectlite.TypeOf"], unfollowed := true, recurses := true, named := ["loop.example/g01384/impl.errNoPlies", "loop.example/g01384/impl.errOutOfRange", "loop.example/g01384/impl.errTooMany", "loop.example/g01384/impl.errNotValid", "loop.example/g01384/impl.errNoYarn", "loop.example/g01384/impl.errNothingLeft"], ifaces := true, apart := false, laid := [("loop.example/g01384/impl.errNotValid", laid_loop_example_g01384_impl_errNotValid), ("loop.example/g01384/impl.errOutOfRange", laid_loop_example_g01384_impl_errOutOfRange), ("loop.example/g01384/impl.errTooMany", laid_loop_example_g01384_impl_errTooMany), ("loop.example/g01384/impl.errNoPlies", laid_loop_example_g01384_impl_errNoPlies), ("loop.example/g01384/impl.errNothingLeft", laid_loop_example_g01384_impl_errNothingLeft), ("loop.example/g01384/impl.errNoYarn", laid_loop_example_g01384_impl_errNoYarn)] }
def FnExactRestOfSaid : Prop := fnExactRestOfRow.holds Tryd.pinned (OpenSpec.ofChange fnExactRestOfSpec)

/-- ITS FALSE NEIGHBOUR: 'it returns false'. Refute it at one input. -/
def fnExactRestOfWrong : ChangeSpec := { name := "fnExactRestOf", vars := ["loop.example/g01384/impl.errNoPlies", "loop.example/g01384/impl.errOutOfRange", "loop.example/g01384/impl.errTooMany", "loop.example/g01384/impl.errNotValid", "loop.example/g01384/impl.errNoYarn", "loop.example/g01384/impl.errNothingLeft"], fn := fun _ => fun
  | [d1, d2, g1, g2, g3, g4, g5, g6] => { results := [.lit (.bool false)], args := [d1, d2], vars := [g1, g2, g3, g4, g5, g6] }
  | _ => none }
def FnExactRestOfWrongFalsely : Prop := fnExactRestOfRow.holds Tryd.pinned (OpenSpec.ofChange fnExactRestOfWrong)

/-- 'laws.FnExactWeakestOf': WHATEVER THE INPUT: true; the input reads as it did. -/
def fnExactWeakestOfSpec : ChangeSpec := { name := "fnExactWeakestOf", vars := ["loop.example/g01384/impl.errOutOfRange", "loop.example/g01384/impl.errTooMany", "loop.example/g01384/impl.errNotValid", "loop.example/g01384/impl.errNoPlies", "loop.example/g01384/impl.errNoYarn", "loop.example/g01384/impl.errNothingLeft"], fn := fun _ => fun
  | [d, g1, g2, g3, g4, g5, g6] => { results := [.lit (.bool true)], args := [d], vars := [g1, g2, g3, g4, g5, g6] }
  | _ => none }
def fnExactWeakestOfRow : OpenClaim := { program := "ytpkjogenkdckpaadoor", sum := "3ecc185ecc555671731dca898e4d6b633bd00b0f4e4fa9003a5248b2527afce6", func := "loop.example/g01384/laws.FnExactWeakestOf", spec := "fnExactWeakestOf", inPlace := ["internal/reflectlite.TypeOf"], unfollowed := true, recurses := true, named := ["loop.example/g01384/impl.errOutOfRange", "loop.example/g01384/impl.errTooMany", "loop.example/g01384/impl.errNotValid", "loop.example/g01384/impl.errNoPlies", "loop.example/g01384/impl.errNoYarn", "loop.example/g01384/impl.errNothingLeft"], ifaces := true, apart := false, laid := [("loop.example/g01384/impl.errNotValid", laid_loop_example_g01384_impl_errNotValid), ("loop.example/g01384/impl.errOutOfRange", laid_loop_example_g01384_impl_errOutOfRange), ("loop.example/g01384/impl.errTooMany", laid_loop_example_g01384_impl_errTooMany), ("loop.example/g01384/impl.errNoPlies", laid_loop_example_g01384_impl_errNoPlies), ("loop.example/g01384/impl.errNothingLeft", laid_loop_example_g01384_impl_errNothingLeft), ("loop.example/g01384/impl.errNoYarn", laid_loop_example_g01384_impl_errNoYarn)] }
def FnExactWeakestOfSaid : Prop := fnExactWeakestOfRow.holds Tryd.pinned (OpenSpec.ofChange fnExactWeakestOfSpec)

/-- ITS FALSE NEIGHBOUR: 'it returns false'. Refute it at one input. -/
def fnExactWeakestOfWrong : ChangeSpec := { name := "fnExactWeakestOf", vars := ["loop.example/g01384/impl.errOutOfRange", "loop.example/g01384/impl.errTooMany", "loop.example/g01384/impl.errNotValid", "loop.example/g01384/impl.errNoPlies", "loop.example/g01384/impl.errNoYarn", "loop.example/g01384/impl.errNothingLeft"], fn := fun _ => fun
  | [d, g1, g2, g3, g4, g5, g6] => { results := [.lit (.bool false)], args := [d], vars := [g1, g2, g3, g4, g5, g6] }
  | _ => none }
def FnExactWeakestOfWrongFalsely : Prop := fnExactWeakestOfRow.holds Tryd.pinned (OpenSpec.ofChange fnExactWeakestOfWrong)

/-- 'laws.FnExactPlyYarns': WHATEVER THE INPUT: true; the input reads as it did. -/
def fnExactPlyYarnsSpec : ChangeSpec := { name := "fnExactPlyYarns", vars := ["loop.example/g01384/impl.errNothingLeft", "loop.example/g01384/impl.errNoPlies", "loop.example/g01384/impl.errOutOfRange", "loop.example/g01384/impl.errTooMany", "loop.example/g01384/impl.errNotValid", "loop.example/g01384/impl.errNoYarn"], fn := fun _ => fun
  | [d1, d2, g1, g2, g3, g4, g5, g6] => { results := [.lit (.bool true)], args := [d1, d2], vars := [g1, g2, g3, g4, g5, g6] }
  | _ => none }
def fnExactPlyYarnsRow : OpenClaim := { program := "ytpkjogenkdckpaadoor", sum := "3ecc185ecc555671731dca898e4d6b633bd00b0f4e4fa9003a5248b2527afce6", func := "loop.example/g01384/laws.FnExactPlyYarns", spec := "fnExactPlyYarns", inPlace := ["internal/reflectlite.TypeOf"], unfollowed := true, recurses := true, named := ["loop.example/g01384/impl.errNothingLeft", "loop.example/g01384/impl.errNoPlies", "loop.example/g01384/impl.errOutOfRange", "loop.example/g01384/impl.errTooMany", "loop.example/g01384/impl.errNotValid", "loop.example/g01384/impl.errNoYarn"], ifaces := true, apart := false, laid := [("loop.example/g01384/impl.errNotValid", laid_loop_example_g01384_impl_errNotValid), ("loop.example/g01384/impl.errOutOfRange", laid_loop_example_g01384_impl_errOutOfRange), ("loop.example/g01384/impl.errTooMany", laid_loop_example_g01384_impl_errTooMany), ("loop.example/g01384/impl.errNoPlies", laid_loop_example_g01384_impl_errNoPlies), ("loop.example/g01384/impl.errNothingLeft", laid_loop_example_g01384_impl_errNothingLeft), ("loop.example/g01384/impl.errNoYarn", laid_loop_example_g01384_impl_errNoYarn)] }
def FnExactPlyYarnsSaid : Prop := fnExactPlyYarnsRow.holds Tryd.pinned (OpenSpec.ofChange fnExactPlyYarnsSpec)

/-- ITS FALSE NEIGHBOUR: 'it returns false'. Refute it at one input. -/
def fnExactPlyYarnsWrong : ChangeSpec := { name := "fnExactPlyYarns", vars := ["loop.example/g01384/impl.errNothingLeft", "loop.example/g01384/impl.errNoPlies", "loop.example/g01384/impl.errOutOfRange", "loop.example/g01384/impl.errTooMany", "loop.example/g01384/impl.errNotValid", "loop.example/g01384/impl.errNoYarn"], fn := fun _ => fun
  | [d1, d2, g1, g2, g3, g4, g5, g6] => { results := [.lit (.bool false)], args := [d1, d2], vars := [g1, g2, g3, g4, g5, g6] }
  | _ => none }
def FnExactPlyYarnsWrongFalsely : Prop := fnExactPlyYarnsRow.holds Tryd.pinned (OpenSpec.ofChange fnExactPlyYarnsWrong)

/-- 'laws.FnExactCutsFrom': WHATEVER THE INPUT: true; the input reads as it did. -/
def fnExactCutsFromSpec : ChangeSpec := { name := "fnExactCutsFrom", vars := ["loop.example/g01384/impl.errTooMany", "loop.example/g01384/impl.errOutOfRange", "loop.example/g01384/impl.errNotValid", "loop.example/g01384/impl.errNoPlies", "loop.example/g01384/impl.errNoYarn", "loop.example/g01384/impl.errNothingLeft"], fn := fun _ => fun
  | [d1, d2, g1, g2, g3, g4, g5, g6] => { results := [.lit (.bool true)], args := [d1, d2], vars := [g1, g2, g3, g4, g5, g6] }
  | _ => none }
def fnExactCutsFromRow : OpenClaim := { program := "ytpkjogenkdckpaadoor", sum := "3ecc185ecc555671731dca898e4d6b633bd00b0f4e4fa9003a5248b2527afce6", func := "loop.example/g01384/laws.FnExactCutsFrom", spec := "fnExactCutsFrom", inPlace := ["internal/reflectlite.TypeOf"], unfollowed := true, recurses := true, named := ["loop.example/g01384/impl.errTooMany", "loop.example/g01384/impl.errOutOfRange", "loop.example/g01384/impl.errNotValid", "loop.example/g01384/impl.errNoPlies", "loop.example/g01384/impl.errNoYarn", "loop.example/g01384/impl.errNothingLeft"], ifaces := true, apart := false, laid := [("loop.example/g01384/impl.errNotValid", laid_loop_example_g01384_impl_errNotValid), ("loop.example/g01384/impl.errOutOfRange", laid_loop_example_g01384_impl_errOutOfRange), ("loop.example/g01384/impl.errTooMany", laid_loop_example_g01384_impl_errTooMany), ("loop.example/g01384/impl.errNoPlies", laid_loop_example_g01384_impl_errNoPlies), ("loop.example/g01384/impl.errNothingLeft", laid_loop_example_g01384_impl_errNothingLeft), ("loop.example/g01384/impl.errNoYarn", laid_loop_example_g01384_impl_errNoYarn)] }
def FnExactCutsFromSaid : Prop := fnExactCutsFromRow.holds Tryd.pinned (OpenSpec.ofChange fnExactCutsFromSpec)

/-- ITS FALSE NEIGHBOUR: 'it returns false'. Refute it at one input. -/
def fnExactCutsFromWrong : ChangeSpec := { name := "fnExactCutsFrom", vars := ["loop.example/g01384/impl.errTooMany", "loop.example/g01384/impl.errOutOfRange", "loop.example/g01384/impl.errNotValid", "loop.example/g01384/impl.errNoPlies", "loop.example/g01384/impl.errNoYarn", "loop.example/g01384/impl.errNothingLeft"], fn := fun _ => fun
  | [d1, d2, g1, g2, g3, g4, g5, g6] => { results := [.lit (.bool false)], args := [d1, d2], vars := [g1, g2, g3, g4, g5, g6] }
  | _ => none }
def FnExactCutsFromWrongFalsely : Prop := fnExactCutsFromRow.holds Tryd.pinned (OpenSpec.ofChange fnExactCutsFromWrong)

/- THE SECOND FORM. 'bulk': how many values and letters a reading holds, each counted each time it is reached (what is shared counts as often as it is met; a slice's spare places count too). A statement '..UptoSaid' is the law's where the arguments, and the package variables that the reading takes, are together of bulk at most 1048576: NARROWER than '..Said'. Prove '..Said' where nothing that the law and all that it calls make is longer than what came in: it says more and counts as full. Else prove '..UptoSaid'. A law counts once. -/
mutual
def uptoBulk {H : Type} : DataW H → Nat
  | .lit (.string bytes) => bytes.length + 1
  | .lit _ => 1
  | .nil => 1
  | .ptr d => uptoBulk d + 1
  | .slice elems spare => uptoBulkAll elems + uptoBulkAll spare + 1
  | .agg parts => uptoBulkAll parts + 1
  | .iface _ d => uptoBulk d + 1
  | .map entries => uptoBulkEntries entries + 1
  | .held _ => 1
def uptoBulkAll {H : Type} : List (DataW H) → Nat
  | [] => 0
  | d :: r => uptoBulk d + uptoBulkAll r
def uptoBulkEntries {H : Type} : List (Lit × DataW H) → Nat
  | [] => 0
  | x :: r => uptoBulkEntry x + uptoBulkEntries r
def uptoBulkEntry {H : Type} : Lit × DataW H → Nat
  | (.string bytes, d) => bytes.length + uptoBulk d + 1
  | (_, d) => uptoBulk d + 1
 end
def uptoSmall : (H : Type) → List (DataW H) → Bool := fun _ ds => decide (uptoBulkAll ds ≤ 1048576)
def OpenSpec.upto (s : _root_.Go.ChangeSpec) : _root_.Go.OpenSpec := { _root_.Go.OpenSpec.ofChange s with cond := some uptoSmall }

/-- 'laws.FnExactSpinHeap', WHERE WHAT IT READS IS OF BULK AT MOST 1048576: true; the input reads as it did. -/
def fnExactSpinHeapUptoRow : OpenClaim := { program := "ytpkjogenkdckpaadoor", sum := "3ecc185ecc555671731dca898e4d6b633bd00b0f4e4fa9003a5248b2527afce6", func := "loop.example/g01384/laws.FnExactSpinHeap", spec := "fnExactSpinHeap", inPlace := ["internal/reflectlite.TypeOf"], unfollowed := true, recurses := true, named := ["loop.example/g01384/impl.errOutOfRange", "loop.example/g01384/impl.errTooMany", "loop.example/g01384/impl.errNotValid", "loop.example/g01384/impl.errNoPlies", "loop.example/g01384/impl.errNoYarn", "loop.example/g01384/impl.errNothingLeft"], ifaces := true, apart := false, laid := [("loop.example/g01384/impl.errNotValid", laid_loop_example_g01384_impl_errNotValid), ("loop.example/g01384/impl.errOutOfRange", laid_loop_example_g01384_impl_errOutOfRange), ("loop.example/g01384/impl.errTooMany", laid_loop_example_g01384_impl_errTooMany), ("loop.example/g01384/impl.errNoPlies", laid_loop_example_g01384_impl_errNoPlies), ("loop.example/g01384/impl.errNothingLeft", laid_loop_example_g01384_impl_errNothingLeft), ("loop.example/g01384/impl.errNoYarn", laid_loop_example_g01384_impl_errNoYarn)], narrowed := true }
def FnExactSpinHeapUptoSaid : Prop := fnExactSpinHeapUptoRow.holds Tryd.pinned (OpenSpec.upto fnExactSpinHeapSpec)

/-- 'laws.FnExactCutYarn', WHERE WHAT IT READS IS OF BULK AT MOST 1048576: true; the input reads as it did. -/
def fnExactCutYarnUptoRow : OpenClaim := { program := "ytpkjogenkdckpaadoor", sum := "3ecc185ecc555671731dca898e4d6b633bd00b0f4e4fa9003a5248b2527afce6", func := "loop.example/g01384/laws.FnExactCutYarn", spec := "fnExactCutYarn", inPlace := ["internal/reflectlite.TypeOf"], unfollowed := true, recurses := true, named := ["loop.example/g01384/impl.errOutOfRange", "loop.example/g01384/impl.errTooMany", "loop.example/g01384/impl.errNotValid", "loop.example/g01384/impl.errNoPlies", "loop.example/g01384/impl.errNoYarn", "loop.example/g01384/impl.errNothingLeft"], ifaces := true, apart := false, laid := [("loop.example/g01384/impl.errNotValid", laid_loop_example_g01384_impl_errNotValid), ("loop.example/g01384/impl.errOutOfRange", laid_loop_example_g01384_impl_errOutOfRange), ("loop.example/g01384/impl.errTooMany", laid_loop_example_g01384_impl_errTooMany), ("loop.example/g01384/impl.errNoPlies", laid_loop_example_g01384_impl_errNoPlies), ("loop.example/g01384/impl.errNothingLeft", laid_loop_example_g01384_impl_errNothingLeft), ("loop.example/g01384/impl.errNoYarn", laid_loop_example_g01384_impl_errNoYarn)], narrowed := true }
def FnExactCutYarnUptoSaid : Prop := fnExactCutYarnUptoRow.holds Tryd.pinned (OpenSpec.upto fnExactCutYarnSpec)

/-- 'laws.FnExactJoinYarns', WHERE WHAT IT READS IS OF BULK AT MOST 1048576: true; the input reads as it did. -/
def fnExactJoinYarnsUptoRow : OpenClaim := { program := "ytpkjogenkdckpaadoor", sum := "3ecc185ecc555671731dca898e4d6b633bd00b0f4e4fa9003a5248b2527afce6", func := "loop.example/g01384/laws.FnExactJoinYarns", spec := "fnExactJoinYarns", inPlace := ["internal/reflectlite.TypeOf"], unfollowed := true, recurses := true, named := ["loop.example/g01384/impl.errOutOfRange", "loop.example/g01384/impl.errTooMany", "loop.example/g01384/impl.errNotValid", "loop.example/g01384/impl.errNoPlies", "loop.example/g01384/impl.errNoYarn", "loop.example/g01384/impl.errNothingLeft"], ifaces := true, apart := false, laid := [("loop.example/g01384/impl.errNotValid", laid_loop_example_g01384_impl_errNotValid), ("loop.example/g01384/impl.errOutOfRange", laid_loop_example_g01384_impl_errOutOfRange), ("loop.example/g01384/impl.errTooMany", laid_loop_example_g01384_impl_errTooMany), ("loop.example/g01384/impl.errNoPlies", laid_loop_example_g01384_impl_errNoPlies), ("loop.example/g01384/impl.errNothingLeft", laid_loop_example_g01384_impl_errNothingLeft), ("loop.example/g01384/impl.errNoYarn", laid_loop_example_g01384_impl_errNoYarn)], narrowed := true }
def FnExactJoinYarnsUptoSaid : Prop := fnExactJoinYarnsUptoRow.holds Tryd.pinned (OpenSpec.upto fnExactJoinYarnsSpec)

/-- 'laws.FnExactPlyLong', WHERE WHAT IT READS IS OF BULK AT MOST 1048576: true; the input reads as it did. -/
def fnExactPlyLongUptoRow : OpenClaim := { program := "ytpkjogenkdckpaadoor", sum := "3ecc185ecc555671731dca898e4d6b633bd00b0f4e4fa9003a5248b2527afce6", func := "loop.example/g01384/laws.FnExactPlyLong", spec := "fnExactPlyLong", inPlace := ["internal/reflectlite.TypeOf"], unfollowed := true, recurses := true, named := ["loop.example/g01384/impl.errNothingLeft", "loop.example/g01384/impl.errNoPlies", "loop.example/g01384/impl.errOutOfRange", "loop.example/g01384/impl.errTooMany", "loop.example/g01384/impl.errNotValid", "loop.example/g01384/impl.errNoYarn"], ifaces := true, apart := false, laid := [("loop.example/g01384/impl.errNotValid", laid_loop_example_g01384_impl_errNotValid), ("loop.example/g01384/impl.errOutOfRange", laid_loop_example_g01384_impl_errOutOfRange), ("loop.example/g01384/impl.errTooMany", laid_loop_example_g01384_impl_errTooMany), ("loop.example/g01384/impl.errNoPlies", laid_loop_example_g01384_impl_errNoPlies), ("loop.example/g01384/impl.errNothingLeft", laid_loop_example_g01384_impl_errNothingLeft), ("loop.example/g01384/impl.errNoYarn", laid_loop_example_g01384_impl_errNoYarn)], narrowed := true }
def FnExactPlyLongUptoSaid : Prop := fnExactPlyLongUptoRow.holds Tryd.pinned (OpenSpec.upto fnExactPlyLongSpec)

/-- 'laws.FnExactRestOf', WHERE WHAT IT READS IS OF BULK AT MOST 1048576: true; the input reads as it did. -/
def fnExactRestOfUptoRow : OpenClaim := { program := "ytpkjogenkdckpaadoor", sum := "3ecc185ecc555671731dca898e4d6b633bd00b0f4e4fa9003a5248b2527afce6", func := "loop.example/g01384/laws.FnExactRestOf", spec := "fnExactRestOf", inPlace := ["internal/reflectlite.TypeOf"], unfollowed := true, recurses := true, named := ["loop.example/g01384/impl.errNoPlies", "loop.example/g01384/impl.errOutOfRange", "loop.example/g01384/impl.errTooMany", "loop.example/g01384/impl.errNotValid", "loop.example/g01384/impl.errNoYarn", "loop.example/g01384/impl.errNothingLeft"], ifaces := true, apart := false, laid := [("loop.example/g01384/impl.errNotValid", laid_loop_example_g01384_impl_errNotValid), ("loop.example/g01384/impl.errOutOfRange", laid_loop_example_g01384_impl_errOutOfRange), ("loop.example/g01384/impl.errTooMany", laid_loop_example_g01384_impl_errTooMany), ("loop.example/g01384/impl.errNoPlies", laid_loop_example_g01384_impl_errNoPlies), ("loop.example/g01384/impl.errNothingLeft", laid_loop_example_g01384_impl_errNothingLeft), ("loop.example/g01384/impl.errNoYarn", laid_loop_example_g01384_impl_errNoYarn)], narrowed := true }
def FnExactRestOfUptoSaid : Prop := fnExactRestOfUptoRow.holds Tryd.pinned (OpenSpec.upto fnExactRestOfSpec)

/-- 'laws.FnExactWeakestOf', WHERE WHAT IT READS IS OF BULK AT MOST 1048576: true; the input reads as it did. -/
def fnExactWeakestOfUptoRow : OpenClaim := { program := "ytpkjogenkdckpaadoor", sum := "3ecc185ecc555671731dca898e4d6b633bd00b0f4e4fa9003a5248b2527afce6", func := "loop.example/g01384/laws.FnExactWeakestOf", spec := "fnExactWeakestOf", inPlace := ["internal/reflectlite.TypeOf"], unfollowed := true, recurses := true, named := ["loop.example/g01384/impl.errOutOfRange", "loop.example/g01384/impl.errTooMany", "loop.example/g01384/impl.errNotValid", "loop.example/g01384/impl.errNoPlies", "loop.example/g01384/impl.errNoYarn", "loop.example/g01384/impl.errNothingLeft"], ifaces := true, apart := false, laid := [("loop.example/g01384/impl.errNotValid", laid_loop_example_g01384_impl_errNotValid), ("loop.example/g01384/impl.errOutOfRange", laid_loop_example_g01384_impl_errOutOfRange), ("loop.example/g01384/impl.errTooMany", laid_loop_example_g01384_impl_errTooMany), ("loop.example/g01384/impl.errNoPlies", laid_loop_example_g01384_impl_errNoPlies), ("loop.example/g01384/impl.errNothingLeft", laid_loop_example_g01384_impl_errNothingLeft), ("loop.example/g01384/impl.errNoYarn", laid_loop_example_g01384_impl_errNoYarn)], narrowed := true }
def FnExactWeakestOfUptoSaid : Prop := fnExactWeakestOfUptoRow.holds Tryd.pinned (OpenSpec.upto fnExactWeakestOfSpec)

/-- 'laws.FnExactPlyYarns', WHERE WHAT IT READS IS OF BULK AT MOST 1048576: true; the input reads as it did. -/
def fnExactPlyYarnsUptoRow : OpenClaim := { program := "ytpkjogenkdckpaadoor", sum := "3ecc185ecc555671731dca898e4d6b633bd00b0f4e4fa9003a5248b2527afce6", func := "loop.example/g01384/laws.FnExactPlyYarns", spec := "fnExactPlyYarns", inPlace := ["internal/reflectlite.TypeOf"], unfollowed := true, recurses := true, named := ["loop.example/g01384/impl.errNothingLeft", "loop.example/g01384/impl.errNoPlies", "loop.example/g01384/impl.errOutOfRange", "loop.example/g01384/impl.errTooMany", "loop.example/g01384/impl.errNotValid", "loop.example/g01384/impl.errNoYarn"], ifaces := true, apart := false, laid := [("loop.example/g01384/impl.errNotValid", laid_loop_example_g01384_impl_errNotValid), ("loop.example/g01384/impl.errOutOfRange", laid_loop_example_g01384_impl_errOutOfRange), ("loop.example/g01384/impl.errTooMany", laid_loop_example_g01384_impl_errTooMany), ("loop.example/g01384/impl.errNoPlies", laid_loop_example_g01384_impl_errNoPlies), ("loop.example/g01384/impl.errNothingLeft", laid_loop_example_g01384_impl_errNothingLeft), ("loop.example/g01384/impl.errNoYarn", laid_loop_example_g01384_impl_errNoYarn)], narrowed := true }
def FnExactPlyYarnsUptoSaid : Prop := fnExactPlyYarnsUptoRow.holds Tryd.pinned (OpenSpec.upto fnExactPlyYarnsSpec)

/-- 'laws.FnExactCutsFrom', WHERE WHAT IT READS IS OF BULK AT MOST 1048576: true; the input reads as it did. -/
def fnExactCutsFromUptoRow : OpenClaim := { program := "ytpkjogenkdckpaadoor", sum := "3ecc185ecc555671731dca898e4d6b633bd00b0f4e4fa9003a5248b2527afce6", func := "loop.example/g01384/laws.FnExactCutsFrom", spec := "fnExactCutsFrom", inPlace := ["internal/reflectlite.TypeOf"], unfollowed := true, recurses := true, named := ["loop.example/g01384/impl.errTooMany", "loop.example/g01384/impl.errOutOfRange", "loop.example/g01384/impl.errNotValid", "loop.example/g01384/impl.errNoPlies", "loop.example/g01384/impl.errNoYarn", "loop.example/g01384/impl.errNothingLeft"], ifaces := true, apart := false, laid := [("loop.example/g01384/impl.errNotValid", laid_loop_example_g01384_impl_errNotValid), ("loop.example/g01384/impl.errOutOfRange", laid_loop_example_g01384_impl_errOutOfRange), ("loop.example/g01384/impl.errTooMany", laid_loop_example_g01384_impl_errTooMany), ("loop.example/g01384/impl.errNoPlies", laid_loop_example_g01384_impl_errNoPlies), ("loop.example/g01384/impl.errNothingLeft", laid_loop_example_g01384_impl_errNothingLeft), ("loop.example/g01384/impl.errNoYarn", laid_loop_example_g01384_impl_errNoYarn)], narrowed := true }
def FnExactCutsFromUptoSaid : Prop := fnExactCutsFromUptoRow.holds Tryd.pinned (OpenSpec.upto fnExactCutsFromSpec)

end Rows
end Go.Proofs.YtpkjogenkdckpaaDoor
