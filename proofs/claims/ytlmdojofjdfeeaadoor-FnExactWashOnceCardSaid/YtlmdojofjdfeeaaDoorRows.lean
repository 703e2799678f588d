/-
  NARROWER THAN 'FOR EVERY INPUT', by the rows' own cells (each row's printed sentence says how): FnExactValidCloth: ifaces, laid · FnExactValidProgram: ifaces, laid · FnExactFeltsBy: ifaces, laid · FnExactWashOnce: ifaces, laid · FnExactShrunkBy: ifaces, laid · FnExactWashAll: ifaces, laid · FnExactGentleOnes: ifaces, laid.
  DERIVED. THE GIVEN ROWS OF THIS SEAT. 7 by the template 'for every input the law returns true; each argument reads behind the call as it read before'; 0 by the template 'total and deterministic' (their statements: YtlmdojofjdfeeaaDoorTotals.lean).
  GIVEN WITH THE SEED: the statements are not yours to turn. If you find one false, say at which input.
  Laid BY PROGRAM, IN A SANDBOX (cutbox-rows.mjs): the forced cells as the released guide's own fill.sh prints them over the translation 1ed163939d50d890… (all of the seat's roots in one cut). By AI agents, Wed Nov 11 2026. No macro, syntax, notation, axiom, sorry.
-/
import Derived.Test.YtlmdojofjdfeeaaDoorChecked
import GoSem.Claim
import GoSem.ClaimJoined
import GoSem.ClaimMapViews
import Derived.JoinedTies
import Derived.KernelRfl
namespace Go.Proofs.YtlmdojofjdfeeaaDoor
/- THE CELL 'sum', in the pinned program and in every row, IS THE sha256 OF THE DUMP (.gsa) THAT YtlmdojofjdfeeaaDoorProg.lean LOADS. Nothing in Lean hashes anything: it is a label: what it is worth is what the hold of that sum in a sandbox is worth. -/
noncomputable def Tryd.pinned : Pinned := { name := "ytlmdojofjdfeeaadoor", sum := "1ed163939d50d890d47f64f2a1288c6b3ef229bc35491ee65595e79035fccc57", checked := Tryd.checked }
namespace Rows
def none {H : Type} : Left H := { results := [], args := [] }

/- WHAT THE LISTED PACKAGE-LEVEL VARIABLES READ AS WHEN THE CALL BEGINS. Each datum BY PROGRAM (the guide's laid-datum.mjs) off the statement by which the dump's own 'gosem.cut.vars' lays the variable. In a bare row this is a premise. The card (YtlmdojofjdfeeaaDoorCards.lean) ties it to the program's text. -/
def laid_loop_example_g01384_impl_errNotValid {H : Type} : DataW H := .iface "*errors.errorString" (.ptr (.agg [.lit (.string [97, 32, 121, 97, 114, 110, 32, 105, 115, 32, 110, 111, 116, 32, 118, 97, 108, 105, 100])]))
def laid_loop_example_g01384_impl_errOutOfRange {H : Type} : DataW H := .iface "*errors.errorString" (.ptr (.agg [.lit (.string [97, 32, 110, 117, 109, 98, 101, 114, 32, 105, 115, 32, 111, 117, 116, 32, 111, 102, 32, 105, 116, 115, 32, 114, 97, 110, 103, 101])]))
def laid_loop_example_g01384_impl_errTooMany {H : Type} : DataW H := .iface "*errors.errorString" (.ptr (.agg [.lit (.string [116, 104, 101, 114, 101, 32, 97, 114, 101, 32, 116, 111, 111, 32, 109, 97, 110, 121])]))
def laid_errors_errorType {H : Type} : DataW H := .iface "internal/reflectlite.rtype" (.agg [.ptr (.lit (.string [101, 114, 114, 111, 114]))])
def laid_loop_example_g01384_impl_errNoPlies {H : Type} : DataW H := .iface "*errors.errorString" (.ptr (.agg [.lit (.string [116, 104, 101, 115, 101, 32, 97, 114, 101, 32, 110, 111, 32, 112, 108, 105, 101, 115])]))
def laid_loop_example_g01384_impl_errNothingLeft {H : Type} : DataW H := .iface "*errors.errorString" (.ptr (.agg [.lit (.string [108, 101, 115, 115, 32, 116, 104, 97, 110, 32, 111, 110, 101, 32, 109, 101, 116, 114, 101, 32, 105, 115, 32, 108, 101, 102, 116])]))
def laid_loop_example_g01384_impl_errNoYarn {H : Type} : DataW H := .iface "*errors.errorString" (.ptr (.agg [.lit (.string [116, 104, 105, 115, 32, 105, 115, 32, 110, 111, 32, 116, 101, 120, 116, 32, 111, 102, 32, 97, 32, 121, 97, 114, 110])]))

/-- 'laws.FnExactValidCloth': WHATEVER THE INPUT: true; the input reads as it did. -/
def fnExactValidClothSpec : ChangeSpec := { name := "fnExactValidCloth", vars := ["loop.example/g01384/impl.errOutOfRange", "loop.example/g01384/impl.errTooMany", "loop.example/g01384/impl.errNotValid"], fn := fun _ => fun
  | [d, g1, g2, g3] => { results := [.lit (.bool true)], args := [d], vars := [g1, g2, g3] }
  | _ => none }
def fnExactValidClothRow : OpenClaim := { program := "ytlmdojofjdfeeaadoor", sum := "1ed163939d50d890d47f64f2a1288c6b3ef229bc35491ee65595e79035fccc57", func := "loop.example/g01384/laws.FnExactValidCloth", spec := "fnExactValidCloth", unfollowed := true, recurses := true, named := ["loop.example/g01384/impl.errOutOfRange", "loop.example/g01384/impl.errTooMany", "loop.example/g01384/impl.errNotValid"], ifaces := true, apart := false, laid := [("loop.example/g01384/impl.errNotValid", laid_loop_example_g01384_impl_errNotValid), ("loop.example/g01384/impl.errOutOfRange", laid_loop_example_g01384_impl_errOutOfRange), ("loop.example/g01384/impl.errTooMany", laid_loop_example_g01384_impl_errTooMany)] }
def FnExactValidClothSaid : Prop := fnExactValidClothRow.holds Tryd.pinned (OpenSpec.ofChange fnExactValidClothSpec)

/-- ITS FALSE NEIGHBOUR: 'it returns false'. Refute it at one input. -/
def fnExactValidClothWrong : ChangeSpec := { name := "fnExactValidCloth", vars := ["loop.example/g01384/impl.errOutOfRange", "loop.example/g01384/impl.errTooMany", "loop.example/g01384/impl.errNotValid"], fn := fun _ => fun
  | [d, g1, g2, g3] => { results := [.lit (.bool false)], args := [d], vars := [g1, g2, g3] }
  | _ => none }
def FnExactValidClothWrongFalsely : Prop := fnExactValidClothRow.holds Tryd.pinned (OpenSpec.ofChange fnExactValidClothWrong)

/-- 'laws.FnExactValidProgram': WHATEVER THE INPUT: true; the input reads as it did. -/
def fnExactValidProgramSpec : ChangeSpec := { name := "fnExactValidProgram", vars := ["loop.example/g01384/impl.errOutOfRange", "loop.example/g01384/impl.errTooMany", "loop.example/g01384/impl.errNotValid"], fn := fun _ => fun
  | [d, g1, g2, g3] => { results := [.lit (.bool true)], args := [d], vars := [g1, g2, g3] }
  | _ => none }
def fnExactValidProgramRow : OpenClaim := { program := "ytlmdojofjdfeeaadoor", sum := "1ed163939d50d890d47f64f2a1288c6b3ef229bc35491ee65595e79035fccc57", func := "loop.example/g01384/laws.FnExactValidProgram", spec := "fnExactValidProgram", unfollowed := true, recurses := true, named := ["loop.example/g01384/impl.errOutOfRange", "loop.example/g01384/impl.errTooMany", "loop.example/g01384/impl.errNotValid"], ifaces := true, apart := false, laid := [("loop.example/g01384/impl.errNotValid", laid_loop_example_g01384_impl_errNotValid), ("loop.example/g01384/impl.errOutOfRange", laid_loop_example_g01384_impl_errOutOfRange), ("loop.example/g01384/impl.errTooMany", laid_loop_example_g01384_impl_errTooMany)] }
def FnExactValidProgramSaid : Prop := fnExactValidProgramRow.holds Tryd.pinned (OpenSpec.ofChange fnExactValidProgramSpec)

/-- ITS FALSE NEIGHBOUR: 'it returns false'. Refute it at one input. -/
def fnExactValidProgramWrong : ChangeSpec := { name := "fnExactValidProgram", vars := ["loop.example/g01384/impl.errOutOfRange", "loop.example/g01384/impl.errTooMany", "loop.example/g01384/impl.errNotValid"], fn := fun _ => fun
  | [d, g1, g2, g3] => { results := [.lit (.bool false)], args := [d], vars := [g1, g2, g3] }
  | _ => none }
def FnExactValidProgramWrongFalsely : Prop := fnExactValidProgramRow.holds Tryd.pinned (OpenSpec.ofChange fnExactValidProgramWrong)

/-- 'laws.FnExactFeltsBy': WHATEVER THE INPUT: true; the input reads as it did. -/
def fnExactFeltsBySpec : ChangeSpec := { name := "fnExactFeltsBy", vars := ["loop.example/g01384/impl.errOutOfRange", "loop.example/g01384/impl.errTooMany", "loop.example/g01384/impl.errNotValid", "loop.example/g01384/impl.errNoPlies", "loop.example/g01384/impl.errNoYarn", "loop.example/g01384/impl.errNothingLeft"], fn := fun _ => fun
  | [d1, d2, g1, g2, g3, g4, g5, g6] => { results := [.lit (.bool true)], args := [d1, d2], vars := [g1, g2, g3, g4, g5, g6] }
  | _ => none }
def fnExactFeltsByRow : OpenClaim := { program := "ytlmdojofjdfeeaadoor", sum := "1ed163939d50d890d47f64f2a1288c6b3ef229bc35491ee65595e79035fccc57", func := "loop.example/g01384/laws.FnExactFeltsBy", spec := "fnExactFeltsBy", inPlace := ["internal/reflectlite.ValueOf", "(internal/reflectlite.Value).Type", "(internal/reflectlite.Value).IsNil", "internal/reflectlite.TypeOf", "(internal/reflectlite.Value).Elem", "(internal/reflectlite.Value).Set"], unfollowed := true, recurses := true, named := ["loop.example/g01384/impl.errOutOfRange", "loop.example/g01384/impl.errTooMany", "loop.example/g01384/impl.errNotValid", "errors.errorType", "loop.example/g01384/impl.errNoPlies", "loop.example/g01384/impl.errNoYarn", "loop.example/g01384/impl.errNothingLeft"], ifaces := true, apart := false, laid := [("errors.errorType", laid_errors_errorType), ("loop.example/g01384/impl.errNotValid", laid_loop_example_g01384_impl_errNotValid), ("loop.example/g01384/impl.errOutOfRange", laid_loop_example_g01384_impl_errOutOfRange), ("loop.example/g01384/impl.errTooMany", laid_loop_example_g01384_impl_errTooMany), ("loop.example/g01384/impl.errNoPlies", laid_loop_example_g01384_impl_errNoPlies), ("loop.example/g01384/impl.errNothingLeft", laid_loop_example_g01384_impl_errNothingLeft), ("loop.example/g01384/impl.errNoYarn", laid_loop_example_g01384_impl_errNoYarn)] }
def FnExactFeltsBySaid : Prop := fnExactFeltsByRow.holds Tryd.pinned (OpenSpec.ofChange fnExactFeltsBySpec)

/-- ITS FALSE NEIGHBOUR: 'it returns false'. Refute it at one input. -/
def fnExactFeltsByWrong : ChangeSpec := { name := "fnExactFeltsBy", vars := ["loop.example/g01384/impl.errOutOfRange", "loop.example/g01384/impl.errTooMany", "loop.example/g01384/impl.errNotValid", "loop.example/g01384/impl.errNoPlies", "loop.example/g01384/impl.errNoYarn", "loop.example/g01384/impl.errNothingLeft"], fn := fun _ => fun
  | [d1, d2, g1, g2, g3, g4, g5, g6] => { results := [.lit (.bool false)], args := [d1, d2], vars := [g1, g2, g3, g4, g5, g6] }
  | _ => none }
def FnExactFeltsByWrongFalsely : Prop := fnExactFeltsByRow.holds Tryd.pinned (OpenSpec.ofChange fnExactFeltsByWrong)

/-- 'laws.FnExactWashOnce': WHATEVER THE INPUT: true; the input reads as it did. -/
def fnExactWashOnceSpec : ChangeSpec := { name := "fnExactWashOnce", vars := ["loop.example/g01384/impl.errOutOfRange", "loop.example/g01384/impl.errTooMany", "loop.example/g01384/impl.errNotValid", "loop.example/g01384/impl.errNoPlies", "loop.example/g01384/impl.errNoYarn", "loop.example/g01384/impl.errNothingLeft"], fn := fun _ => fun
  | [d1, d2, g1, g2, g3, g4, g5, g6] => { results := [.lit (.bool true)], args := [d1, d2], vars := [g1, g2, g3, g4, g5, g6] }
  | _ => none }
def fnExactWashOnceRow : OpenClaim := { program := "ytlmdojofjdfeeaadoor", sum := "1ed163939d50d890d47f64f2a1288c6b3ef229bc35491ee65595e79035fccc57", func := "loop.example/g01384/laws.FnExactWashOnce", spec := "fnExactWashOnce", inPlace := ["internal/reflectlite.ValueOf", "(internal/reflectlite.Value).Type", "(internal/reflectlite.Value).IsNil", "internal/reflectlite.TypeOf", "(internal/reflectlite.Value).Elem", "(internal/reflectlite.Value).Set"], unfollowed := true, recurses := true, named := ["loop.example/g01384/impl.errOutOfRange", "loop.example/g01384/impl.errTooMany", "loop.example/g01384/impl.errNotValid", "errors.errorType", "loop.example/g01384/impl.errNoPlies", "loop.example/g01384/impl.errNoYarn", "loop.example/g01384/impl.errNothingLeft"], ifaces := true, apart := false, laid := [("errors.errorType", laid_errors_errorType), ("loop.example/g01384/impl.errNotValid", laid_loop_example_g01384_impl_errNotValid), ("loop.example/g01384/impl.errOutOfRange", laid_loop_example_g01384_impl_errOutOfRange), ("loop.example/g01384/impl.errTooMany", laid_loop_example_g01384_impl_errTooMany), ("loop.example/g01384/impl.errNoPlies", laid_loop_example_g01384_impl_errNoPlies), ("loop.example/g01384/impl.errNothingLeft", laid_loop_example_g01384_impl_errNothingLeft), ("loop.example/g01384/impl.errNoYarn", laid_loop_example_g01384_impl_errNoYarn)] }
def FnExactWashOnceSaid : Prop := fnExactWashOnceRow.holds Tryd.pinned (OpenSpec.ofChange fnExactWashOnceSpec)

/-- ITS FALSE NEIGHBOUR: 'it returns false'. Refute it at one input. -/
def fnExactWashOnceWrong : ChangeSpec := { name := "fnExactWashOnce", vars := ["loop.example/g01384/impl.errOutOfRange", "loop.example/g01384/impl.errTooMany", "loop.example/g01384/impl.errNotValid", "loop.example/g01384/impl.errNoPlies", "loop.example/g01384/impl.errNoYarn", "loop.example/g01384/impl.errNothingLeft"], fn := fun _ => fun
  | [d1, d2, g1, g2, g3, g4, g5, g6] => { results := [.lit (.bool false)], args := [d1, d2], vars := [g1, g2, g3, g4, g5, g6] }
  | _ => none }
def FnExactWashOnceWrongFalsely : Prop := fnExactWashOnceRow.holds Tryd.pinned (OpenSpec.ofChange fnExactWashOnceWrong)

/-- 'laws.FnExactShrunkBy': WHATEVER THE INPUT: true; the input reads as it did. -/
def fnExactShrunkBySpec : ChangeSpec := { name := "fnExactShrunkBy", vars := ["loop.example/g01384/impl.errOutOfRange", "loop.example/g01384/impl.errTooMany", "loop.example/g01384/impl.errNotValid"], fn := fun _ => fun
  | [d1, d2, g1, g2, g3] => { results := [.lit (.bool true)], args := [d1, d2], vars := [g1, g2, g3] }
  | _ => none }
def fnExactShrunkByRow : OpenClaim := { program := "ytlmdojofjdfeeaadoor", sum := "1ed163939d50d890d47f64f2a1288c6b3ef229bc35491ee65595e79035fccc57", func := "loop.example/g01384/laws.FnExactShrunkBy", spec := "fnExactShrunkBy", unfollowed := true, recurses := true, named := ["loop.example/g01384/impl.errOutOfRange", "loop.example/g01384/impl.errTooMany", "loop.example/g01384/impl.errNotValid"], ifaces := true, apart := false, laid := [("loop.example/g01384/impl.errNotValid", laid_loop_example_g01384_impl_errNotValid), ("loop.example/g01384/impl.errOutOfRange", laid_loop_example_g01384_impl_errOutOfRange), ("loop.example/g01384/impl.errTooMany", laid_loop_example_g01384_impl_errTooMany)] }
def FnExactShrunkBySaid : Prop := fnExactShrunkByRow.holds Tryd.pinned (OpenSpec.ofChange fnExactShrunkBySpec)

/-- ITS FALSE NEIGHBOUR: 'it returns false'. Refute it at one input. -/
def fnExactShrunkByWrong : ChangeSpec := { name := "fnExactShrunkBy", vars := ["loop.example/g01384/impl.errOutOfRange", "loop.example/g01384/impl.errTooMany", "loop.example/g01384/impl.errNotValid"], fn := fun _ => fun
  | [d1, d2, g1, g2, g3] => { results := [.lit (.bool false)], args := [d1, d2], vars := [g1, g2, g3] }
  | _ => none }
def FnExactShrunkByWrongFalsely : Prop := fnExactShrunkByRow.holds Tryd.pinned (OpenSpec.ofChange fnExactShrunkByWrong)

/-- 'laws.FnExactWashAll': WHATEVER THE INPUT: true; the input reads as it did. -/
def fnExactWashAllSpec : ChangeSpec := { name := "fnExactWashAll", vars := ["loop.example/g01384/impl.errOutOfRange", "loop.example/g01384/impl.errTooMany", "loop.example/g01384/impl.errNotValid", "loop.example/g01384/impl.errNoPlies", "loop.example/g01384/impl.errNoYarn", "loop.example/g01384/impl.errNothingLeft"], fn := fun _ => fun
  | [d1, d2, d3, g1, g2, g3, g4, g5, g6] => { results := [.lit (.bool true)], args := [d1, d2, d3], vars := [g1, g2, g3, g4, g5, g6] }
  | _ => none }
def fnExactWashAllRow : OpenClaim := { program := "ytlmdojofjdfeeaadoor", sum := "1ed163939d50d890d47f64f2a1288c6b3ef229bc35491ee65595e79035fccc57", func := "loop.example/g01384/laws.FnExactWashAll", spec := "fnExactWashAll", inPlace := ["internal/reflectlite.ValueOf", "(internal/reflectlite.Value).Type", "(internal/reflectlite.Value).IsNil", "internal/reflectlite.TypeOf", "(internal/reflectlite.Value).Elem", "(internal/reflectlite.Value).Set"], unfollowed := true, recurses := true, named := ["loop.example/g01384/impl.errOutOfRange", "loop.example/g01384/impl.errTooMany", "loop.example/g01384/impl.errNotValid", "errors.errorType", "loop.example/g01384/impl.errNoPlies", "loop.example/g01384/impl.errNoYarn", "loop.example/g01384/impl.errNothingLeft"], ifaces := true, apart := false, laid := [("errors.errorType", laid_errors_errorType), ("loop.example/g01384/impl.errNotValid", laid_loop_example_g01384_impl_errNotValid), ("loop.example/g01384/impl.errOutOfRange", laid_loop_example_g01384_impl_errOutOfRange), ("loop.example/g01384/impl.errTooMany", laid_loop_example_g01384_impl_errTooMany), ("loop.example/g01384/impl.errNoPlies", laid_loop_example_g01384_impl_errNoPlies), ("loop.example/g01384/impl.errNothingLeft", laid_loop_example_g01384_impl_errNothingLeft), ("loop.example/g01384/impl.errNoYarn", laid_loop_example_g01384_impl_errNoYarn)] }
def FnExactWashAllSaid : Prop := fnExactWashAllRow.holds Tryd.pinned (OpenSpec.ofChange fnExactWashAllSpec)

/-- ITS FALSE NEIGHBOUR: 'it returns false'. Refute it at one input. -/
def fnExactWashAllWrong : ChangeSpec := { name := "fnExactWashAll", vars := ["loop.example/g01384/impl.errOutOfRange", "loop.example/g01384/impl.errTooMany", "loop.example/g01384/impl.errNotValid", "loop.example/g01384/impl.errNoPlies", "loop.example/g01384/impl.errNoYarn", "loop.example/g01384/impl.errNothingLeft"], fn := fun _ => fun
  | [d1, d2, d3, g1, g2, g3, g4, g5, g6] => { results := [.lit (.bool false)], args := [d1, d2, d3], vars := [g1, g2, g3, g4, g5, g6] }
  | _ => none }
def FnExactWashAllWrongFalsely : Prop := fnExactWashAllRow.holds Tryd.pinned (OpenSpec.ofChange fnExactWashAllWrong)

/-- 'laws.FnExactGentleOnes': WHATEVER THE INPUT: true; the input reads as it did. -/
def fnExactGentleOnesSpec : ChangeSpec := { name := "fnExactGentleOnes", vars := ["loop.example/g01384/impl.errOutOfRange", "loop.example/g01384/impl.errTooMany", "loop.example/g01384/impl.errNotValid", "loop.example/g01384/impl.errNoPlies", "loop.example/g01384/impl.errNoYarn", "loop.example/g01384/impl.errNothingLeft"], fn := fun _ => fun
  | [d1, d2, g1, g2, g3, g4, g5, g6] => { results := [.lit (.bool true)], args := [d1, d2], vars := [g1, g2, g3, g4, g5, g6] }
  | _ => none }
def fnExactGentleOnesRow : OpenClaim := { program := "ytlmdojofjdfeeaadoor", sum := "1ed163939d50d890d47f64f2a1288c6b3ef229bc35491ee65595e79035fccc57", func := "loop.example/g01384/laws.FnExactGentleOnes", spec := "fnExactGentleOnes", inPlace := ["internal/reflectlite.ValueOf", "(internal/reflectlite.Value).Type", "(internal/reflectlite.Value).IsNil", "internal/reflectlite.TypeOf", "(internal/reflectlite.Value).Elem", "(internal/reflectlite.Value).Set"], unfollowed := true, recurses := true, named := ["loop.example/g01384/impl.errOutOfRange", "loop.example/g01384/impl.errTooMany", "loop.example/g01384/impl.errNotValid", "errors.errorType", "loop.example/g01384/impl.errNoPlies", "loop.example/g01384/impl.errNoYarn", "loop.example/g01384/impl.errNothingLeft"], ifaces := true, apart := false, laid := [("errors.errorType", laid_errors_errorType), ("loop.example/g01384/impl.errNotValid", laid_loop_example_g01384_impl_errNotValid), ("loop.example/g01384/impl.errOutOfRange", laid_loop_example_g01384_impl_errOutOfRange), ("loop.example/g01384/impl.errTooMany", laid_loop_example_g01384_impl_errTooMany), ("loop.example/g01384/impl.errNoPlies", laid_loop_example_g01384_impl_errNoPlies), ("loop.example/g01384/impl.errNothingLeft", laid_loop_example_g01384_impl_errNothingLeft), ("loop.example/g01384/impl.errNoYarn", laid_loop_example_g01384_impl_errNoYarn)] }
def FnExactGentleOnesSaid : Prop := fnExactGentleOnesRow.holds Tryd.pinned (OpenSpec.ofChange fnExactGentleOnesSpec)

/-- ITS FALSE NEIGHBOUR: 'it returns false'. Refute it at one input. -/
def fnExactGentleOnesWrong : ChangeSpec := { name := "fnExactGentleOnes", vars := ["loop.example/g01384/impl.errOutOfRange", "loop.example/g01384/impl.errTooMany", "loop.example/g01384/impl.errNotValid", "loop.example/g01384/impl.errNoPlies", "loop.example/g01384/impl.errNoYarn", "loop.example/g01384/impl.errNothingLeft"], fn := fun _ => fun
  | [d1, d2, g1, g2, g3, g4, g5, g6] => { results := [.lit (.bool false)], args := [d1, d2], vars := [g1, g2, g3, g4, g5, g6] }
  | _ => none }
def FnExactGentleOnesWrongFalsely : Prop := fnExactGentleOnesRow.holds Tryd.pinned (OpenSpec.ofChange fnExactGentleOnesWrong)

/- THE SECOND FORM. 'bulk': how many values and letters a reading holds, each counted each time it is reached (what is shared counts as often as it is met; a slice's spare places count too). A statement '..UptoSaid' is the law's where the arguments, and the package variables that the reading takes, are together of bulk at most 1048576: NARROWER than '..Said'. Prove '..Said' where nothing that the law and all that it calls make is longer than what came in: it says more and counts as full. Else prove '..UptoSaid'. A law counts once. -/
mutual
def uptoBulk {H : Type} : DataW H → Nat
  | .lit (.string bytes) => bytes.length + 1
  | .lit _ => 1
  | .nil => 1
  | .ptr d => uptoBulk d + 1
  | .slice elems spare => uptoBulkAll elems + uptoBulkAll spare + 1
  | .agg parts => uptoBulkAll parts + 1
  | .iface _ d => uptoBulk d + 1
  | .map entries => uptoBulkEntries entries + 1
  | .held _ => 1
def uptoBulkAll {H : Type} : List (DataW H) → Nat
  | [] => 0
  | d :: r => uptoBulk d + uptoBulkAll r
def uptoBulkEntries {H : Type} : List (Lit × DataW H) → Nat
  | [] => 0
  | x :: r => uptoBulkEntry x + uptoBulkEntries r
def uptoBulkEntry {H : Type} : Lit × DataW H → Nat
  | (.string bytes, d) => bytes.length + uptoBulk d + 1
  | (_, d) => uptoBulk d + 1
 end
def uptoSmall : (H : Type) → List (DataW H) → Bool := fun _ ds => decide (uptoBulkAll ds ≤ 1048576)
def OpenSpec.upto (s : _root_.Go.ChangeSpec) : _root_.Go.OpenSpec := { _root_.Go.OpenSpec.ofChange s with cond := some uptoSmall }

/-- 'laws.FnExactValidCloth', WHERE WHAT IT READS IS OF BULK AT MOST 1048576: true; the input reads as it did. -/
def fnExactValidClothUptoRow : OpenClaim := { program := "ytlmdojofjdfeeaadoor", sum := "1ed163939d50d890d47f64f2a1288c6b3ef229bc35491ee65595e79035fccc57", func := "loop.example/g01384/laws.FnExactValidCloth", spec := "fnExactValidCloth", unfollowed := true, recurses := true, named := ["loop.example/g01384/impl.errOutOfRange", "loop.example/g01384/impl.errTooMany", "loop.example/g01384/impl.errNotValid"], ifaces := true, apart := false, laid := [("loop.example/g01384/impl.errNotValid", laid_loop_example_g01384_impl_errNotValid), ("loop.example/g01384/impl.errOutOfRange", laid_loop_example_g01384_impl_errOutOfRange), ("loop.example/g01384/impl.errTooMany", laid_loop_example_g01384_impl_errTooMany)], narrowed := true }
def FnExactValidClothUptoSaid : Prop := fnExactValidClothUptoRow.holds Tryd.pinned (OpenSpec.upto fnExactValidClothSpec)

/-- 'laws.FnExactValidProgram', WHERE WHAT IT READS IS OF BULK AT MOST 1048576: true; the input reads as it did. -/
def fnExactValidProgramUptoRow : OpenClaim := { program := "ytlmdojofjdfeeaadoor", sum := "1ed163939d50d890d47f64f2a1288c6b3ef229bc35491ee65595e79035fccc57", func := "loop.example/g01384/laws.FnExactValidProgram", spec := "fnExactValidProgram", unfollowed := true, recurses := true, named := ["loop.example/g01384/impl.errOutOfRange", "loop.example/g01384/impl.errTooMany", "loop.example/g01384/impl.errNotValid"], ifaces := true, apart := false, laid := [("loop.example/g01384/impl.errNotValid", laid_loop_example_g01384_impl_errNotValid), ("loop.example/g01384/impl.errOutOfRange", laid_loop_example_g01384_impl_errOutOfRange), ("loop.example/g01384/impl.errTooMany", laid_loop_example_g01384_impl_errTooMany)], narrowed := true }
def FnExactValidProgramUptoSaid : Prop := fnExactValidProgramUptoRow.holds Tryd.pinned (OpenSpec.upto fnExactValidProgramSpec)

/-- 'laws.FnExactFeltsBy', WHERE WHAT IT READS IS OF BULK AT MOST 1048576: true; the input reads as it did. -/
def fnExactFeltsByUptoRow : OpenClaim := { program := "ytlmdojofjdfeeaadoor", sum := "1ed163939d50d890d47f64f2a1288c6b3ef229bc35491ee65595e79035fccc57", func := "loop.example/g01384/laws.FnExactFeltsBy", spec := "fnExactFeltsBy", inPlace := ["internal/reflectlite.ValueOf", "(internal/reflectlite.Value).Type", "(internal/reflectlite.Value).IsNil", "internal/reflectlite.TypeOf", "(internal/reflectlite.Value).Elem", "(internal/reflectlite.Value).Set"], unfollowed := true, recurses := true, named := ["loop.example/g01384/impl.errOutOfRange", "loop.example/g01384/impl.errTooMany", "loop.example/g01384/impl.errNotValid", "errors.errorType", "loop.example/g01384/impl.errNoPlies", "loop.example/g01384/impl.errNoYarn", "loop.example/g01384/impl.errNothingLeft"], ifaces := true, apart := false, laid := [("errors.errorType", laid_errors_errorType), ("loop.example/g01384/impl.errNotValid", laid_loop_example_g01384_impl_errNotValid), ("loop.example/g01384/impl.errOutOfRange", laid_loop_example_g01384_impl_errOutOfRange), ("loop.example/g01384/impl.errTooMany", laid_loop_example_g01384_impl_errTooMany), ("loop.example/g01384/impl.errNoPlies", laid_loop_example_g01384_impl_errNoPlies), ("loop.example/g01384/impl.errNothingLeft", laid_loop_example_g01384_impl_errNothingLeft), ("loop.example/g01384/impl.errNoYarn", laid_loop_example_g01384_impl_errNoYarn)], narrowed := true }
def FnExactFeltsByUptoSaid : Prop := fnExactFeltsByUptoRow.holds Tryd.pinned (OpenSpec.upto fnExactFeltsBySpec)

/-- 'laws.FnExactWashOnce', WHERE WHAT IT READS IS OF BULK AT MOST 1048576: true; the input reads as it did. -/
def fnExactWashOnceUptoRow : OpenClaim := { program := "ytlmdojofjdfeeaadoor", sum := "1ed163939d50d890d47f64f2a1288c6b3ef229bc35491ee65595e79035fccc57", func := "loop.example/g01384/laws.FnExactWashOnce", spec := "fnExactWashOnce", inPlace := ["internal/reflectlite.ValueOf", "(internal/reflectlite.Value).Type", "(internal/reflectlite.Value).IsNil", "internal/reflectlite.TypeOf", "(internal/reflectlite.Value).Elem", "(internal/reflectlite.Value).Set"], unfollowed := true, recurses := true, named := ["loop.example/g01384/impl.errOutOfRange", "loop.example/g01384/impl.errTooMany", "loop.example/g01384/impl.errNotValid", "errors.errorType", "loop.example/g01384/impl.errNoPlies", "loop.example/g01384/impl.errNoYarn", "loop.example/g01384/impl.errNothingLeft"], ifaces := true, apart := false, laid := [("errors.errorType", laid_errors_errorType), ("loop.example/g01384/impl.errNotValid", laid_loop_example_g01384_impl_errNotValid), ("loop.example/g01384/impl.errOutOfRange", laid_loop_example_g01384_impl_errOutOfRange), ("loop.example/g01384/impl.errTooMany", laid_loop_example_g01384_impl_errTooMany), ("loop.example/g01384/impl.errNoPlies", laid_loop_example_g01384_impl_errNoPlies), ("loop.example/g01384/impl.errNothingLeft", laid_loop_example_g01384_impl_errNothingLeft), ("loop.example/g01384/impl.errNoYarn", laid_loop_example_g01384_impl_errNoYarn)], narrowed := true }
def FnExactWashOnceUptoSaid : Prop := fnExactWashOnceUptoRow.holds Tryd.pinned (OpenSpec.upto fnExactWashOnceSpec)

/-- 'laws.FnExactShrunkBy', WHERE WHAT IT READS IS OF BULK AT MOST 1048576: true; the input reads as it did. -/
def fnExactShrunkByUptoRow : OpenClaim := { program := "ytlmdojofjdfeeaadoor", sum := "1ed163939d50d890d47f64f2a1288c6b3ef229bc35491ee65595e79035fccc57", func := "loop.example/g01384/laws.FnExactShrunkBy", spec := "fnExactShrunkBy", unfollowed := true, recurses := true, named := ["loop.example/g01384/impl.errOutOfRange", "loop.example/g01384/impl.errTooMany", "loop.example/g01384/impl.errNotValid"], ifaces := true, apart := false, laid := [("loop.example/g01384/impl.errNotValid", laid_loop_example_g01384_impl_errNotValid), ("loop.example/g01384/impl.errOutOfRange", laid_loop_example_g01384_impl_errOutOfRange), ("loop.example/g01384/impl.errTooMany", laid_loop_example_g01384_impl_errTooMany)], narrowed := true }
def FnExactShrunkByUptoSaid : Prop := fnExactShrunkByUptoRow.holds Tryd.pinned (OpenSpec.upto fnExactShrunkBySpec)

/-- 'laws.FnExactWashAll', WHERE WHAT IT READS IS OF BULK AT MOST 1048576: true; the input reads as it did. -/
def fnExactWashAllUptoRow : OpenClaim := { program := "ytlmdojofjdfeeaadoor", sum := "1ed163939d50d890d47f64f2a1288c6b3ef229bc35491ee65595e79035fccc57", func := "loop.example/g01384/laws.FnExactWashAll", spec := "fnExactWashAll", inPlace := ["internal/reflectlite.ValueOf", "(internal/reflectlite.Value).Type", "(internal/reflectlite.Value).IsNil", "internal/reflectlite.TypeOf", "(internal/reflectlite.Value).Elem", "(internal/reflectlite.Value).Set"], unfollowed := true, recurses := true, named := ["loop.example/g01384/impl.errOutOfRange", "loop.example/g01384/impl.errTooMany", "loop.example/g01384/impl.errNotValid", "errors.errorType", "loop.example/g01384/impl.errNoPlies", "loop.example/g01384/impl.errNoYarn", "loop.example/g01384/impl.errNothingLeft"], ifaces := true, apart := false, laid := [("errors.errorType", laid_errors_errorType), ("loop.example/g01384/impl.errNotValid", laid_loop_example_g01384_impl_errNotValid), ("loop.example/g01384/impl.errOutOfRange", laid_loop_example_g01384_impl_errOutOfRange), ("loop.example/g01384/impl.errTooMany", laid_loop_example_g01384_impl_errTooMany), ("loop.example/g01384/impl.errNoPlies", laid_loop_example_g01384_impl_errNoPlies), ("loop.example/g01384/impl.errNothingLeft", laid_loop_example_g01384_impl_errNothingLeft), ("loop.example/g01384/impl.errNoYarn", laid_loop_example_g01384_impl_errNoYarn)], narrowed := true }
def FnExactWashAllUptoSaid : Prop := fnExactWashAllUptoRow.holds Tryd.pinned (OpenSpec.upto fnExactWashAllSpec)

/-- 'laws.FnExactGentleOnes', WHERE WHAT IT READS IS OF BULK AT MOST 1048576: true; the input reads as it did. -/
def fnExactGentleOnesUptoRow : OpenClaim := { program := "ytlmdojofjdfeeaadoor", sum := "1ed163939d50d890d47f64f2a1288c6b3ef229bc35491ee65595e79035fccc57", func := "loop.example/g01384/laws.FnExactGentleOnes", spec := "fnExactGentleOnes", inPlace := ["internal/reflectlite.ValueOf", "(internal/reflectlite.Value).Type", "(internal/reflectlite.Value).IsNil", "internal/reflectlite.TypeOf", "(internal/reflectlite.Value).Elem", "(internal/reflectlite.Value).Set"], unfollowed := true, recurses := true, named := ["loop.example/g01384/impl.errOutOfRange", "loop.example/g01384/impl.errTooMany", "loop.example/g01384/impl.errNotValid", "errors.errorType", "loop.example/g01384/impl.errNoPlies", "loop.example/g01384/impl.errNoYarn", "loop.example/g01384/impl.errNothingLeft"], ifaces := true, apart := false, laid := [("errors.errorType", laid_errors_errorType), ("loop.example/g01384/impl.errNotValid", laid_loop_example_g01384_impl_errNotValid), ("loop.example/g01384/impl.errOutOfRange", laid_loop_example_g01384_impl_errOutOfRange), ("loop.example/g01384/impl.errTooMany", laid_loop_example_g01384_impl_errTooMany), ("loop.example/g01384/impl.errNoPlies", laid_loop_example_g01384_impl_errNoPlies), ("loop.example/g01384/impl.errNothingLeft", laid_loop_example_g01384_impl_errNothingLeft), ("loop.example/g01384/impl.errNoYarn", laid_loop_example_g01384_impl_errNoYarn)], narrowed := true }
def FnExactGentleOnesUptoSaid : Prop := fnExactGentleOnesUptoRow.holds Tryd.pinned (OpenSpec.upto fnExactGentleOnesSpec)

end Rows
end Go.Proofs.YtlmdojofjdfeeaaDoor
