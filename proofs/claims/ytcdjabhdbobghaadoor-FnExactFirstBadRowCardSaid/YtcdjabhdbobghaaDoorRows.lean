/-
  NARROWER THAN 'FOR EVERY INPUT', by the rows' own cells (each row's printed sentence says how): FnExactGoesTo: ifaces, laid · FnExactFromOf: ifaces, laid · FnExactFirstBadRow: ifaces, laid.
  DERIVED. THE GIVEN ROWS OF THIS SEAT. 3 by the template 'for every input the law returns true; each argument reads behind the call as it read before'; 0 by the template 'total and deterministic' (their statements: YtcdjabhdbobghaaDoorTotals.lean).
  GIVEN WITH THE SEED: the statements are not yours to turn. If you find one false, say at which input.
  Laid BY PROGRAM, IN A SANDBOX (cutbox-rows.mjs): the forced cells as the released guide's own fill.sh prints them over the translation 258c582cb42e2e68… (all of the seat's roots in one cut). By AI agents, Wed Nov 11 2026. No macro, syntax, notation, axiom, sorry.
-/
import Derived.Test.YtcdjabhdbobghaaDoorChecked
import GoSem.Claim
import GoSem.ClaimJoined
import GoSem.ClaimMapViews
import Derived.JoinedTies
import Derived.KernelRfl
namespace Go.Proofs.YtcdjabhdbobghaaDoor
/- THE CELL 'sum', in the pinned program and in every row, IS THE sha256 OF THE DUMP (.gsa) THAT YtcdjabhdbobghaaDoorProg.lean LOADS. Nothing in Lean hashes anything: it is a label: what it is worth is what the hold of that sum in a sandbox is worth. -/
noncomputable def Tryd.pinned : Pinned := { name := "ytcdjabhdbobghaadoor", sum := "258c582cb42e2e68dbba479148fa6e0c2923a515d139c16fd3c22f0dd8d8950f", checked := Tryd.checked }
namespace Rows
def none {H : Type} : Left H := { results := [], args := [] }

/- WHAT THE LISTED PACKAGE-LEVEL VARIABLES READ AS WHEN THE CALL BEGINS. Each datum BY PROGRAM (the guide's laid-datum.mjs) off the statement by which the dump's own 'gosem.cut.vars' lays the variable. In a bare row this is a premise. The card (YtcdjabhdbobghaaDoorCards.lean) ties it to the program's text. -/
def laid_loop_example_g01384_impl_errNotValid {H : Type} : DataW H := .iface "*errors.errorString" (.ptr (.agg [.lit (.string [97, 32, 121, 97, 114, 110, 32, 105, 115, 32, 110, 111, 116, 32, 118, 97, 108, 105, 100])]))
def laid_loop_example_g01384_impl_errOutOfRange {H : Type} : DataW H := .iface "*errors.errorString" (.ptr (.agg [.lit (.string [97, 32, 110, 117, 109, 98, 101, 114, 32, 105, 115, 32, 111, 117, 116, 32, 111, 102, 32, 105, 116, 115, 32, 114, 97, 110, 103, 101])]))
def laid_loop_example_g01384_impl_errTooMany {H : Type} : DataW H := .iface "*errors.errorString" (.ptr (.agg [.lit (.string [116, 104, 101, 114, 101, 32, 97, 114, 101, 32, 116, 111, 111, 32, 109, 97, 110, 121])]))
def laid_loop_example_g01384_impl_errNoPlies {H : Type} : DataW H := .iface "*errors.errorString" (.ptr (.agg [.lit (.string [116, 104, 101, 115, 101, 32, 97, 114, 101, 32, 110, 111, 32, 112, 108, 105, 101, 115])]))
def laid_loop_example_g01384_impl_errNothingLeft {H : Type} : DataW H := .iface "*errors.errorString" (.ptr (.agg [.lit (.string [108, 101, 115, 115, 32, 116, 104, 97, 110, 32, 111, 110, 101, 32, 109, 101, 116, 114, 101, 32, 105, 115, 32, 108, 101, 102, 116])]))
def laid_loop_example_g01384_impl_errNoYarn {H : Type} : DataW H := .iface "*errors.errorString" (.ptr (.agg [.lit (.string [116, 104, 105, 115, 32, 105, 115, 32, 110, 111, 32, 116, 101, 120, 116, 32, 111, 102, 32, 97, 32, 121, 97, 114, 110])]))
def laid_errors_errorType {H : Type} : DataW H := .iface "internal/reflectlite.rtype" (.agg [.ptr (.lit (.string [101, 114, 114, 111, 114]))])

/-- 'laws.FnExactGoesTo': WHATEVER THE INPUT: true; the input reads as it did. -/
def fnExactGoesToSpec : ChangeSpec := { name := "fnExactGoesTo", vars := ["loop.example/g01384/impl.errOutOfRange", "loop.example/g01384/impl.errTooMany", "loop.example/g01384/impl.errNotValid", "loop.example/g01384/impl.errNoPlies", "loop.example/g01384/impl.errNoYarn", "loop.example/g01384/impl.errNothingLeft"], fn := fun _ => fun
  | [d1, d2, g1, g2, g3, g4, g5, g6] => { results := [.lit (.bool true)], args := [d1, d2], vars := [g1, g2, g3, g4, g5, g6] }
  | _ => none }
def fnExactGoesToRow : OpenClaim := { program := "ytcdjabhdbobghaadoor", sum := "258c582cb42e2e68dbba479148fa6e0c2923a515d139c16fd3c22f0dd8d8950f", func := "loop.example/g01384/laws.FnExactGoesTo", spec := "fnExactGoesTo", inPlace := ["internal/reflectlite.TypeOf"], unfollowed := true, recurses := true, named := ["loop.example/g01384/impl.errOutOfRange", "loop.example/g01384/impl.errTooMany", "loop.example/g01384/impl.errNotValid", "loop.example/g01384/impl.errNoPlies", "loop.example/g01384/impl.errNoYarn", "loop.example/g01384/impl.errNothingLeft"], ifaces := true, plainKeys := false, apart := false, laid := [("loop.example/g01384/impl.errNotValid", laid_loop_example_g01384_impl_errNotValid), ("loop.example/g01384/impl.errOutOfRange", laid_loop_example_g01384_impl_errOutOfRange), ("loop.example/g01384/impl.errTooMany", laid_loop_example_g01384_impl_errTooMany), ("loop.example/g01384/impl.errNoPlies", laid_loop_example_g01384_impl_errNoPlies), ("loop.example/g01384/impl.errNothingLeft", laid_loop_example_g01384_impl_errNothingLeft), ("loop.example/g01384/impl.errNoYarn", laid_loop_example_g01384_impl_errNoYarn)] }
def FnExactGoesToSaid : Prop := fnExactGoesToRow.holds Tryd.pinned (OpenSpec.ofChange fnExactGoesToSpec)

/-- ITS FALSE NEIGHBOUR: 'it returns false'. Refute it at one input. -/
def fnExactGoesToWrong : ChangeSpec := { name := "fnExactGoesTo", vars := ["loop.example/g01384/impl.errOutOfRange", "loop.example/g01384/impl.errTooMany", "loop.example/g01384/impl.errNotValid", "loop.example/g01384/impl.errNoPlies", "loop.example/g01384/impl.errNoYarn", "loop.example/g01384/impl.errNothingLeft"], fn := fun _ => fun
  | [d1, d2, g1, g2, g3, g4, g5, g6] => { results := [.lit (.bool false)], args := [d1, d2], vars := [g1, g2, g3, g4, g5, g6] }
  | _ => none }
def FnExactGoesToWrongFalsely : Prop := fnExactGoesToRow.holds Tryd.pinned (OpenSpec.ofChange fnExactGoesToWrong)

/-- 'laws.FnExactFromOf': WHATEVER THE INPUT: true; the input reads as it did. -/
def fnExactFromOfSpec : ChangeSpec := { name := "fnExactFromOf", vars := ["loop.example/g01384/impl.errOutOfRange", "loop.example/g01384/impl.errTooMany", "loop.example/g01384/impl.errNotValid", "loop.example/g01384/impl.errNoPlies", "loop.example/g01384/impl.errNoYarn", "loop.example/g01384/impl.errNothingLeft"], fn := fun _ => fun
  | [d1, d2, g1, g2, g3, g4, g5, g6] => { results := [.lit (.bool true)], args := [d1, d2], vars := [g1, g2, g3, g4, g5, g6] }
  | _ => none }
def fnExactFromOfRow : OpenClaim := { program := "ytcdjabhdbobghaadoor", sum := "258c582cb42e2e68dbba479148fa6e0c2923a515d139c16fd3c22f0dd8d8950f", func := "loop.example/g01384/laws.FnExactFromOf", spec := "fnExactFromOf", inPlace := ["internal/reflectlite.TypeOf"], unfollowed := true, recurses := true, named := ["loop.example/g01384/impl.errOutOfRange", "loop.example/g01384/impl.errTooMany", "loop.example/g01384/impl.errNotValid", "loop.example/g01384/impl.errNoPlies", "loop.example/g01384/impl.errNoYarn", "loop.example/g01384/impl.errNothingLeft"], ifaces := true, plainKeys := false, apart := false, laid := [("loop.example/g01384/impl.errNotValid", laid_loop_example_g01384_impl_errNotValid), ("loop.example/g01384/impl.errOutOfRange", laid_loop_example_g01384_impl_errOutOfRange), ("loop.example/g01384/impl.errTooMany", laid_loop_example_g01384_impl_errTooMany), ("loop.example/g01384/impl.errNoPlies", laid_loop_example_g01384_impl_errNoPlies), ("loop.example/g01384/impl.errNothingLeft", laid_loop_example_g01384_impl_errNothingLeft), ("loop.example/g01384/impl.errNoYarn", laid_loop_example_g01384_impl_errNoYarn)] }
def FnExactFromOfSaid : Prop := fnExactFromOfRow.holds Tryd.pinned (OpenSpec.ofChange fnExactFromOfSpec)

/-- ITS FALSE NEIGHBOUR: 'it returns false'. Refute it at one input. -/
def fnExactFromOfWrong : ChangeSpec := { name := "fnExactFromOf", vars := ["loop.example/g01384/impl.errOutOfRange", "loop.example/g01384/impl.errTooMany", "loop.example/g01384/impl.errNotValid", "loop.example/g01384/impl.errNoPlies", "loop.example/g01384/impl.errNoYarn", "loop.example/g01384/impl.errNothingLeft"], fn := fun _ => fun
  | [d1, d2, g1, g2, g3, g4, g5, g6] => { results := [.lit (.bool false)], args := [d1, d2], vars := [g1, g2, g3, g4, g5, g6] }
  | _ => none }
def FnExactFromOfWrongFalsely : Prop := fnExactFromOfRow.holds Tryd.pinned (OpenSpec.ofChange fnExactFromOfWrong)

/-- 'laws.FnExactFirstBadRow': WHATEVER THE INPUT: true; the input reads as it did. -/
def fnExactFirstBadRowSpec : ChangeSpec := { name := "fnExactFirstBadRow", vars := ["loop.example/g01384/impl.errOutOfRange", "loop.example/g01384/impl.errTooMany", "loop.example/g01384/impl.errNotValid", "loop.example/g01384/impl.errNoPlies", "loop.example/g01384/impl.errNoYarn", "loop.example/g01384/impl.errNothingLeft"], fn := fun _ => fun
  | [d1, d2, g1, g2, g3, g4, g5, g6] => { results := [.lit (.bool true)], args := [d1, d2], vars := [g1, g2, g3, g4, g5, g6] }
  | _ => none }
def fnExactFirstBadRowRow : OpenClaim := { program := "ytcdjabhdbobghaadoor", sum := "258c582cb42e2e68dbba479148fa6e0c2923a515d139c16fd3c22f0dd8d8950f", func := "loop.example/g01384/laws.FnExactFirstBadRow", spec := "fnExactFirstBadRow", inPlace := ["internal/reflectlite.ValueOf", "(internal/reflectlite.Value).Type", "(internal/reflectlite.Value).IsNil", "internal/reflectlite.TypeOf", "(internal/reflectlite.Value).Elem", "(internal/reflectlite.Value).Set"], unfollowed := true, recurses := true, named := ["loop.example/g01384/impl.errOutOfRange", "loop.example/g01384/impl.errTooMany", "loop.example/g01384/impl.errNotValid", "errors.errorType", "loop.example/g01384/impl.errNoPlies", "loop.example/g01384/impl.errNoYarn", "loop.example/g01384/impl.errNothingLeft"], ifaces := true, plainKeys := false, apart := false, laid := [("errors.errorType", laid_errors_errorType), ("loop.example/g01384/impl.errNotValid", laid_loop_example_g01384_impl_errNotValid), ("loop.example/g01384/impl.errOutOfRange", laid_loop_example_g01384_impl_errOutOfRange), ("loop.example/g01384/impl.errTooMany", laid_loop_example_g01384_impl_errTooMany), ("loop.example/g01384/impl.errNoPlies", laid_loop_example_g01384_impl_errNoPlies), ("loop.example/g01384/impl.errNothingLeft", laid_loop_example_g01384_impl_errNothingLeft), ("loop.example/g01384/impl.errNoYarn", laid_loop_example_g01384_impl_errNoYarn)] }
def FnExactFirstBadRowSaid : Prop := fnExactFirstBadRowRow.holds Tryd.pinned (OpenSpec.ofChange fnExactFirstBadRowSpec)

/-- ITS FALSE NEIGHBOUR: 'it returns false'. Refute it at one input. -/
def fnExactFirstBadRowWrong : ChangeSpec := { name := "fnExactFirstBadRow", vars := ["loop.example/g01384/impl.errOutOfRange", "loop.example/g01384/impl.errTooMany", "loop.example/g01384/impl.errNotValid", "loop.example/g01384/impl.errNoPlies", "loop.example/g01384/impl.errNoYarn", "loop.example/g01384/impl.errNothingLeft"], fn := fun _ => fun
  | [d1, d2, g1, g2, g3, g4, g5, g6] => { results := [.lit (.bool false)], args := [d1, d2], vars := [g1, g2, g3, g4, g5, g6] }
  | _ => none }
def FnExactFirstBadRowWrongFalsely : Prop := fnExactFirstBadRowRow.holds Tryd.pinned (OpenSpec.ofChange fnExactFirstBadRowWrong)

/- THE SECOND FORM. 'bulk': how many values and letters a reading holds, each counted each time it is reached (what is shared counts as often as it is met; a slice's spare places count too). A statement '..UptoSaid' is the law's where the arguments, and the package variables that the reading takes, are together of bulk at most 1048576: NARROWER than '..Said'. Prove '..Said' where nothing that the law and all that it calls make is longer than what came in: it says more and counts as full. Else prove '..UptoSaid'. A law counts once. -/
mutual
def uptoBulk {H : Type} : DataW H → Nat
  | .lit (.string bytes) => bytes.length + 1
  | .lit _ => 1
  | .nil => 1
  | .ptr d => uptoBulk d + 1
  | .slice elems spare => uptoBulkAll elems + uptoBulkAll spare + 1
  | .agg parts => uptoBulkAll parts + 1
  | .iface _ d => uptoBulk d + 1
  | .map entries => uptoBulkEntries entries + 1
  | .held _ => 1
def uptoBulkAll {H : Type} : List (DataW H) → Nat
  | [] => 0
  | d :: r => uptoBulk d + uptoBulkAll r
def uptoBulkEntries {H : Type} : List (Lit × DataW H) → Nat
  | [] => 0
  | x :: r => uptoBulkEntry x + uptoBulkEntries r
def uptoBulkEntry {H : Type} : Lit × DataW H → Nat
  | (.string bytes, d) => bytes.length + uptoBulk d + 1
  | (_, d) => uptoBulk d + 1
 end
def uptoSmall : (H : Type) → List (DataW H) → Bool := fun _ ds => decide (uptoBulkAll ds ≤ 1048576)
def OpenSpec.upto (s : _root_.Go.ChangeSpec) : _root_.Go.OpenSpec := { _root_.Go.OpenSpec.ofChange s with cond := some uptoSmall }

/-- 'laws.FnExactGoesTo', WHERE WHAT IT READS IS OF BULK AT MOST 1048576: true; the input reads as it did. -/
def fnExactGoesToUptoRow : OpenClaim := { program := "ytcdjabhdbobghaadoor", sum := "258c582cb42e2e68dbba479148fa6e0c2923a515d139c16fd3c22f0dd8d8950f", func := "loop.example/g01384/laws.FnExactGoesTo", spec := "fnExactGoesTo", inPlace := ["internal/reflectlite.TypeOf"], unfollowed := true, recurses := true, named := ["loop.example/g01384/impl.errOutOfRange", "loop.example/g01384/impl.errTooMany", "loop.example/g01384/impl.errNotValid", "loop.example/g01384/impl.errNoPlies", "loop.example/g01384/impl.errNoYarn", "loop.example/g01384/impl.errNothingLeft"], ifaces := true, plainKeys := false, apart := false, laid := [("loop.example/g01384/impl.errNotValid", laid_loop_example_g01384_impl_errNotValid), ("loop.example/g01384/impl.errOutOfRange", laid_loop_example_g01384_impl_errOutOfRange), ("loop.example/g01384/impl.errTooMany", laid_loop_example_g01384_impl_errTooMany), ("loop.example/g01384/impl.errNoPlies", laid_loop_example_g01384_impl_errNoPlies), ("loop.example/g01384/impl.errNothingLeft", laid_loop_example_g01384_impl_errNothingLeft), ("loop.example/g01384/impl.errNoYarn", laid_loop_example_g01384_impl_errNoYarn)], narrowed := true }
def FnExactGoesToUptoSaid : Prop := fnExactGoesToUptoRow.holds Tryd.pinned (OpenSpec.upto fnExactGoesToSpec)

/-- 'laws.FnExactFromOf', WHERE WHAT IT READS IS OF BULK AT MOST 1048576: true; the input reads as it did. -/
def fnExactFromOfUptoRow : OpenClaim := { program := "ytcdjabhdbobghaadoor", sum := "258c582cb42e2e68dbba479148fa6e0c2923a515d139c16fd3c22f0dd8d8950f", func := "loop.example/g01384/laws.FnExactFromOf", spec := "fnExactFromOf", inPlace := ["internal/reflectlite.TypeOf"], unfollowed := true, recurses := true, named := ["loop.example/g01384/impl.errOutOfRange", "loop.example/g01384/impl.errTooMany", "loop.example/g01384/impl.errNotValid", "loop.example/g01384/impl.errNoPlies", "loop.example/g01384/impl.errNoYarn", "loop.example/g01384/impl.errNothingLeft"], ifaces := true, plainKeys := false, apart := false, laid := [("loop.example/g01384/impl.errNotValid", laid_loop_example_g01384_impl_errNotValid), ("loop.example/g01384/impl.errOutOfRange", laid_loop_example_g01384_impl_errOutOfRange), ("loop.example/g01384/impl.errTooMany", laid_loop_example_g01384_impl_errTooMany), ("loop.example/g01384/impl.errNoPlies", laid_loop_example_g01384_impl_errNoPlies), ("loop.example/g01384/impl.errNothingLeft", laid_loop_example_g01384_impl_errNothingLeft), ("loop.example/g01384/impl.errNoYarn", laid_loop_example_g01384_impl_errNoYarn)], narrowed := true }
def FnExactFromOfUptoSaid : Prop := fnExactFromOfUptoRow.holds Tryd.pinned (OpenSpec.upto fnExactFromOfSpec)

/-- 'laws.FnExactFirstBadRow', WHERE WHAT IT READS IS OF BULK AT MOST 1048576: true; the input reads as it did. -/
def fnExactFirstBadRowUptoRow : OpenClaim := { program := "ytcdjabhdbobghaadoor", sum := "258c582cb42e2e68dbba479148fa6e0c2923a515d139c16fd3c22f0dd8d8950f", func := "loop.example/g01384/laws.FnExactFirstBadRow", spec := "fnExactFirstBadRow", inPlace := ["internal/reflectlite.ValueOf", "(internal/reflectlite.Value).Type", "(internal/reflectlite.Value).IsNil", "internal/reflectlite.TypeOf", "(internal/reflectlite.Value).Elem", "(internal/reflectlite.Value).Set"], unfollowed := true, recurses := true, named := ["loop.example/g01384/impl.errOutOfRange", "loop.example/g01384/impl.errTooMany", "loop.example/g01384/impl.errNotValid", "errors.errorType", "loop.example/g01384/impl.errNoPlies", "loop.example/g01384/impl.errNoYarn", "loop.example/g01384/impl.errNothingLeft"], ifaces := true, plainKeys := false, apart := false, laid := [("errors.errorType", laid_errors_errorType), ("loop.example/g01384/impl.errNotValid", laid_loop_example_g01384_impl_errNotValid), ("loop.example/g01384/impl.errOutOfRange", laid_loop_example_g01384_impl_errOutOfRange), ("loop.example/g01384/impl.errTooMany", laid_loop_example_g01384_impl_errTooMany), ("loop.example/g01384/impl.errNoPlies", laid_loop_example_g01384_impl_errNoPlies), ("loop.example/g01384/impl.errNothingLeft", laid_loop_example_g01384_impl_errNothingLeft), ("loop.example/g01384/impl.errNoYarn", laid_loop_example_g01384_impl_errNoYarn)], narrowed := true }
def FnExactFirstBadRowUptoSaid : Prop := fnExactFirstBadRowUptoRow.holds Tryd.pinned (OpenSpec.upto fnExactFirstBadRowSpec)

end Rows
end Go.Proofs.YtcdjabhdbobghaaDoor
