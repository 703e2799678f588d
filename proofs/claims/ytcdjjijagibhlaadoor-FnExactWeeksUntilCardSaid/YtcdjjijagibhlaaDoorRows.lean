/-
  NARROWER THAN 'FOR EVERY INPUT', by the rows' own cells (each row's printed sentence says how): FnExactWeekLater: ifaces, laid · FnExactWeeksLater: ifaces, laid · FnExactStaysFor: ifaces, laid · FnExactWeeksUntil: ifaces, laid · FnExactMendSpot: ifaces, laid · FnExactBestMend: ifaces, laid.
  DERIVED. THE GIVEN ROWS OF THIS SEAT. 6 by the template 'for every input the law returns true; each argument reads behind the call as it read before'; 0 by the template 'total and deterministic' (their statements: YtcdjjijagibhlaaDoorTotals.lean).
  GIVEN WITH THE SEED: the statements are not yours to turn. If you find one false, say at which input.
  Laid BY PROGRAM, IN A SANDBOX (cutbox-rows.mjs): the forced cells as the released guide's own fill.sh prints them over the translation 3af0485aca13c7f5… (all of the seat's roots in one cut). By AI agents, Wed Nov 11 2026. No macro, syntax, notation, axiom, sorry.
-/
import Derived.Test.YtcdjjijagibhlaaDoorChecked
import GoSem.Claim
import GoSem.ClaimJoined
import GoSem.ClaimMapViews
import Derived.JoinedTies
import Derived.KernelRfl
namespace Go.Proofs.YtcdjjijagibhlaaDoor
/- THE CELL 'sum', in the pinned program and in every row, IS THE sha256 OF THE DUMP (.gsa) THAT YtcdjjijagibhlaaDoorProg.lean LOADS. Nothing in Lean hashes anything: it is a label: what it is worth is what the hold of that sum in a sandbox is worth. -/
noncomputable def Tryd.pinned : Pinned := { name := "ytcdjjijagibhlaadoor", sum := "3af0485aca13c7f538fb955d6719b259c966646abed1c4218323d677cd975cd9", checked := Tryd.checked }
namespace Rows
def none {H : Type} : Left H := { results := [], args := [] }

/- WHAT THE LISTED PACKAGE-LEVEL VARIABLES READ AS WHEN THE CALL BEGINS. Each datum BY PROGRAM (the guide's laid-datum.mjs) off the statement by which the dump's own 'gosem.cut.vars' lays the variable. In a bare row this is a premise. The card (YtcdjjijagibhlaaDoorCards.lean) ties it to the program's text. -/
def laid_loop_example_g01384_impl_errNotValid {H : Type} : DataW H := .iface "*errors.errorString" (.ptr (.agg [.lit (.string [97, 32, 121, 97, 114, 110, 32, 105, 115, 32, 110, 111, 116, 32, 118, 97, 108, 105, 100])]))
def laid_loop_example_g01384_impl_errOutOfRange {H : Type} : DataW H := .iface "*errors.errorString" (.ptr (.agg [.lit (.string [97, 32, 110, 117, 109, 98, 101, 114, 32, 105, 115, 32, 111, 117, 116, 32, 111, 102, 32, 105, 116, 115, 32, 114, 97, 110, 103, 101])]))
def laid_loop_example_g01384_impl_errTooMany {H : Type} : DataW H := .iface "*errors.errorString" (.ptr (.agg [.lit (.string [116, 104, 101, 114, 101, 32, 97, 114, 101, 32, 116, 111, 111, 32, 109, 97, 110, 121])]))
def laid_loop_example_g01384_impl_errNoPlies {H : Type} : DataW H := .iface "*errors.errorString" (.ptr (.agg [.lit (.string [116, 104, 101, 115, 101, 32, 97, 114, 101, 32, 110, 111, 32, 112, 108, 105, 101, 115])]))
def laid_loop_example_g01384_impl_errNothingLeft {H : Type} : DataW H := .iface "*errors.errorString" (.ptr (.agg [.lit (.string [108, 101, 115, 115, 32, 116, 104, 97, 110, 32, 111, 110, 101, 32, 109, 101, 116, 114, 101, 32, 105, 115, 32, 108, 101, 102, 116])]))
def laid_loop_example_g01384_impl_errNoYarn {H : Type} : DataW H := .iface "*errors.errorString" (.ptr (.agg [.lit (.string [116, 104, 105, 115, 32, 105, 115, 32, 110, 111, 32, 116, 101, 120, 116, 32, 111, 102, 32, 97, 32, 121, 97, 114, 110])]))

/-- 'laws.FnExactWeekLater': WHATEVER THE INPUT: true; the input reads as it did. -/
def fnExactWeekLaterSpec : ChangeSpec := { name := "fnExactWeekLater", vars := ["loop.example/g01384/impl.errOutOfRange", "loop.example/g01384/impl.errTooMany", "loop.example/g01384/impl.errNotValid", "loop.example/g01384/impl.errNoPlies", "loop.example/g01384/impl.errNoYarn", "loop.example/g01384/impl.errNothingLeft"], fn := fun _ => fun
  | [d1, d2, g1, g2, g3, g4, g5, g6] => { results := [.lit (.bool true)], args := [d1, d2], vars := [g1, g2, g3, g4, g5, g6] }
  | _ => none }
def fnExactWeekLaterRow : OpenClaim := { program := "ytcdjjijagibhlaadoor", sum := "3af0485aca13c7f538fb955d6719b259c966646abed1c4218323d677cd975cd9", func := "loop.example/g01384/laws.FnExactWeekLater", spec := "fnExactWeekLater", inPlace := ["internal/reflectlite.TypeOf"], unfollowed := true, recurses := true, named := ["loop.example/g01384/impl.errOutOfRange", "loop.example/g01384/impl.errTooMany", "loop.example/g01384/impl.errNotValid", "loop.example/g01384/impl.errNoPlies", "loop.example/g01384/impl.errNoYarn", "loop.example/g01384/impl.errNothingLeft"], ifaces := true, apart := false, laid := [("loop.example/g01384/impl.errNotValid", laid_loop_example_g01384_impl_errNotValid), ("loop.example/g01384/impl.errOutOfRange", laid_loop_example_g01384_impl_errOutOfRange), ("loop.example/g01384/impl.errTooMany", laid_loop_example_g01384_impl_errTooMany), ("loop.example/g01384/impl.errNoPlies", laid_loop_example_g01384_impl_errNoPlies), ("loop.example/g01384/impl.errNothingLeft", laid_loop_example_g01384_impl_errNothingLeft), ("loop.example/g01384/impl.errNoYarn", laid_loop_example_g01384_impl_errNoYarn)] }
def FnExactWeekLaterSaid : Prop := fnExactWeekLaterRow.holds Tryd.pinned (OpenSpec.ofChange fnExactWeekLaterSpec)

/-- ITS FALSE NEIGHBOUR: 'it returns false'. Refute it at one input. -/
def fnExactWeekLaterWrong : ChangeSpec := { name := "fnExactWeekLater", vars := ["loop.example/g01384/impl.errOutOfRange", "loop.example/g01384/impl.errTooMany", "loop.example/g01384/impl.errNotValid", "loop.example/g01384/impl.errNoPlies", "loop.example/g01384/impl.errNoYarn", "loop.example/g01384/impl.errNothingLeft"], fn := fun _ => fun
  | [d1, d2, g1, g2, g3, g4, g5, g6] => { results := [.lit (.bool false)], args := [d1, d2], vars := [g1, g2, g3, g4, g5, g6] }
  | _ => none }
def FnExactWeekLaterWrongFalsely : Prop := fnExactWeekLaterRow.holds Tryd.pinned (OpenSpec.ofChange fnExactWeekLaterWrong)

/-- 'laws.FnExactWeeksLater': WHATEVER THE INPUT: true; the input reads as it did. -/
def fnExactWeeksLaterSpec : ChangeSpec := { name := "fnExactWeeksLater", vars := ["loop.example/g01384/impl.errOutOfRange", "loop.example/g01384/impl.errTooMany", "loop.example/g01384/impl.errNotValid", "loop.example/g01384/impl.errNoPlies", "loop.example/g01384/impl.errNoYarn", "loop.example/g01384/impl.errNothingLeft"], fn := fun _ => fun
  | [d1, d2, d3, g1, g2, g3, g4, g5, g6] => { results := [.lit (.bool true)], args := [d1, d2, d3], vars := [g1, g2, g3, g4, g5, g6] }
  | _ => none }
def fnExactWeeksLaterRow : OpenClaim := { program := "ytcdjjijagibhlaadoor", sum := "3af0485aca13c7f538fb955d6719b259c966646abed1c4218323d677cd975cd9", func := "loop.example/g01384/laws.FnExactWeeksLater", spec := "fnExactWeeksLater", inPlace := ["internal/reflectlite.TypeOf"], unfollowed := true, recurses := true, named := ["loop.example/g01384/impl.errOutOfRange", "loop.example/g01384/impl.errTooMany", "loop.example/g01384/impl.errNotValid", "loop.example/g01384/impl.errNoPlies", "loop.example/g01384/impl.errNoYarn", "loop.example/g01384/impl.errNothingLeft"], ifaces := true, apart := false, laid := [("loop.example/g01384/impl.errNotValid", laid_loop_example_g01384_impl_errNotValid), ("loop.example/g01384/impl.errOutOfRange", laid_loop_example_g01384_impl_errOutOfRange), ("loop.example/g01384/impl.errTooMany", laid_loop_example_g01384_impl_errTooMany), ("loop.example/g01384/impl.errNoPlies", laid_loop_example_g01384_impl_errNoPlies), ("loop.example/g01384/impl.errNothingLeft", laid_loop_example_g01384_impl_errNothingLeft), ("loop.example/g01384/impl.errNoYarn", laid_loop_example_g01384_impl_errNoYarn)] }
def FnExactWeeksLaterSaid : Prop := fnExactWeeksLaterRow.holds Tryd.pinned (OpenSpec.ofChange fnExactWeeksLaterSpec)

/-- ITS FALSE NEIGHBOUR: 'it returns false'. Refute it at one input. -/
def fnExactWeeksLaterWrong : ChangeSpec := { name := "fnExactWeeksLater", vars := ["loop.example/g01384/impl.errOutOfRange", "loop.example/g01384/impl.errTooMany", "loop.example/g01384/impl.errNotValid", "loop.example/g01384/impl.errNoPlies", "loop.example/g01384/impl.errNoYarn", "loop.example/g01384/impl.errNothingLeft"], fn := fun _ => fun
  | [d1, d2, d3, g1, g2, g3, g4, g5, g6] => { results := [.lit (.bool false)], args := [d1, d2, d3], vars := [g1, g2, g3, g4, g5, g6] }
  | _ => none }
def FnExactWeeksLaterWrongFalsely : Prop := fnExactWeeksLaterRow.holds Tryd.pinned (OpenSpec.ofChange fnExactWeeksLaterWrong)

/-- 'laws.FnExactStaysFor': WHATEVER THE INPUT: true; the input reads as it did. -/
def fnExactStaysForSpec : ChangeSpec := { name := "fnExactStaysFor", vars := ["loop.example/g01384/impl.errOutOfRange", "loop.example/g01384/impl.errTooMany", "loop.example/g01384/impl.errNotValid", "loop.example/g01384/impl.errNoPlies", "loop.example/g01384/impl.errNoYarn", "loop.example/g01384/impl.errNothingLeft"], fn := fun _ => fun
  | [d1, d2, g1, g2, g3, g4, g5, g6] => { results := [.lit (.bool true)], args := [d1, d2], vars := [g1, g2, g3, g4, g5, g6] }
  | _ => none }
def fnExactStaysForRow : OpenClaim := { program := "ytcdjjijagibhlaadoor", sum := "3af0485aca13c7f538fb955d6719b259c966646abed1c4218323d677cd975cd9", func := "loop.example/g01384/laws.FnExactStaysFor", spec := "fnExactStaysFor", inPlace := ["internal/reflectlite.TypeOf"], unfollowed := true, recurses := true, named := ["loop.example/g01384/impl.errOutOfRange", "loop.example/g01384/impl.errTooMany", "loop.example/g01384/impl.errNotValid", "loop.example/g01384/impl.errNoPlies", "loop.example/g01384/impl.errNoYarn", "loop.example/g01384/impl.errNothingLeft"], ifaces := true, apart := false, laid := [("loop.example/g01384/impl.errNotValid", laid_loop_example_g01384_impl_errNotValid), ("loop.example/g01384/impl.errOutOfRange", laid_loop_example_g01384_impl_errOutOfRange), ("loop.example/g01384/impl.errTooMany", laid_loop_example_g01384_impl_errTooMany), ("loop.example/g01384/impl.errNoPlies", laid_loop_example_g01384_impl_errNoPlies), ("loop.example/g01384/impl.errNothingLeft", laid_loop_example_g01384_impl_errNothingLeft), ("loop.example/g01384/impl.errNoYarn", laid_loop_example_g01384_impl_errNoYarn)] }
def FnExactStaysForSaid : Prop := fnExactStaysForRow.holds Tryd.pinned (OpenSpec.ofChange fnExactStaysForSpec)

/-- ITS FALSE NEIGHBOUR: 'it returns false'. Refute it at one input. -/
def fnExactStaysForWrong : ChangeSpec := { name := "fnExactStaysFor", vars := ["loop.example/g01384/impl.errOutOfRange", "loop.example/g01384/impl.errTooMany", "loop.example/g01384/impl.errNotValid", "loop.example/g01384/impl.errNoPlies", "loop.example/g01384/impl.errNoYarn", "loop.example/g01384/impl.errNothingLeft"], fn := fun _ => fun
  | [d1, d2, g1, g2, g3, g4, g5, g6] => { results := [.lit (.bool false)], args := [d1, d2], vars := [g1, g2, g3, g4, g5, g6] }
  | _ => none }
def FnExactStaysForWrongFalsely : Prop := fnExactStaysForRow.holds Tryd.pinned (OpenSpec.ofChange fnExactStaysForWrong)

/-- 'laws.FnExactWeeksUntil': WHATEVER THE INPUT: true; the input reads as it did. -/
def fnExactWeeksUntilSpec : ChangeSpec := { name := "fnExactWeeksUntil", vars := ["loop.example/g01384/impl.errOutOfRange", "loop.example/g01384/impl.errTooMany", "loop.example/g01384/impl.errNotValid", "loop.example/g01384/impl.errNoPlies", "loop.example/g01384/impl.errNoYarn", "loop.example/g01384/impl.errNothingLeft"], fn := fun _ => fun
  | [d1, d2, d3, g1, g2, g3, g4, g5, g6] => { results := [.lit (.bool true)], args := [d1, d2, d3], vars := [g1, g2, g3, g4, g5, g6] }
  | _ => none }
def fnExactWeeksUntilRow : OpenClaim := { program := "ytcdjjijagibhlaadoor", sum := "3af0485aca13c7f538fb955d6719b259c966646abed1c4218323d677cd975cd9", func := "loop.example/g01384/laws.FnExactWeeksUntil", spec := "fnExactWeeksUntil", inPlace := ["internal/reflectlite.TypeOf"], unfollowed := true, recurses := true, named := ["loop.example/g01384/impl.errOutOfRange", "loop.example/g01384/impl.errTooMany", "loop.example/g01384/impl.errNotValid", "loop.example/g01384/impl.errNoPlies", "loop.example/g01384/impl.errNoYarn", "loop.example/g01384/impl.errNothingLeft"], ifaces := true, apart := false, laid := [("loop.example/g01384/impl.errNotValid", laid_loop_example_g01384_impl_errNotValid), ("loop.example/g01384/impl.errOutOfRange", laid_loop_example_g01384_impl_errOutOfRange), ("loop.example/g01384/impl.errTooMany", laid_loop_example_g01384_impl_errTooMany), ("loop.example/g01384/impl.errNoPlies", laid_loop_example_g01384_impl_errNoPlies), ("loop.example/g01384/impl.errNothingLeft", laid_loop_example_g01384_impl_errNothingLeft), ("loop.example/g01384/impl.errNoYarn", laid_loop_example_g01384_impl_errNoYarn)] }
def FnExactWeeksUntilSaid : Prop := fnExactWeeksUntilRow.holds Tryd.pinned (OpenSpec.ofChange fnExactWeeksUntilSpec)

/-- ITS FALSE NEIGHBOUR: 'it returns false'. Refute it at one input. -/
def fnExactWeeksUntilWrong : ChangeSpec := { name := "fnExactWeeksUntil", vars := ["loop.example/g01384/impl.errOutOfRange", "loop.example/g01384/impl.errTooMany", "loop.example/g01384/impl.errNotValid", "loop.example/g01384/impl.errNoPlies", "loop.example/g01384/impl.errNoYarn", "loop.example/g01384/impl.errNothingLeft"], fn := fun _ => fun
  | [d1, d2, d3, g1, g2, g3, g4, g5, g6] => { results := [.lit (.bool false)], args := [d1, d2, d3], vars := [g1, g2, g3, g4, g5, g6] }
  | _ => none }
def FnExactWeeksUntilWrongFalsely : Prop := fnExactWeeksUntilRow.holds Tryd.pinned (OpenSpec.ofChange fnExactWeeksUntilWrong)

/-- 'laws.FnExactMendSpot': WHATEVER THE INPUT: true; the input reads as it did. -/
def fnExactMendSpotSpec : ChangeSpec := { name := "fnExactMendSpot", vars := ["loop.example/g01384/impl.errOutOfRange", "loop.example/g01384/impl.errTooMany", "loop.example/g01384/impl.errNotValid", "loop.example/g01384/impl.errNoPlies", "loop.example/g01384/impl.errNoYarn", "loop.example/g01384/impl.errNothingLeft"], fn := fun _ => fun
  | [d1, d2, d3, g1, g2, g3, g4, g5, g6] => { results := [.lit (.bool true)], args := [d1, d2, d3], vars := [g1, g2, g3, g4, g5, g6] }
  | _ => none }
def fnExactMendSpotRow : OpenClaim := { program := "ytcdjjijagibhlaadoor", sum := "3af0485aca13c7f538fb955d6719b259c966646abed1c4218323d677cd975cd9", func := "loop.example/g01384/laws.FnExactMendSpot", spec := "fnExactMendSpot", inPlace := ["internal/reflectlite.TypeOf"], unfollowed := true, recurses := true, named := ["loop.example/g01384/impl.errOutOfRange", "loop.example/g01384/impl.errTooMany", "loop.example/g01384/impl.errNotValid", "loop.example/g01384/impl.errNoPlies", "loop.example/g01384/impl.errNoYarn", "loop.example/g01384/impl.errNothingLeft"], ifaces := true, apart := false, laid := [("loop.example/g01384/impl.errNotValid", laid_loop_example_g01384_impl_errNotValid), ("loop.example/g01384/impl.errOutOfRange", laid_loop_example_g01384_impl_errOutOfRange), ("loop.example/g01384/impl.errTooMany", laid_loop_example_g01384_impl_errTooMany), ("loop.example/g01384/impl.errNoPlies", laid_loop_example_g01384_impl_errNoPlies), ("loop.example/g01384/impl.errNothingLeft", laid_loop_example_g01384_impl_errNothingLeft), ("loop.example/g01384/impl.errNoYarn", laid_loop_example_g01384_impl_errNoYarn)] }
def FnExactMendSpotSaid : Prop := fnExactMendSpotRow.holds Tryd.pinned (OpenSpec.ofChange fnExactMendSpotSpec)

/-- ITS FALSE NEIGHBOUR: 'it returns false'. Refute it at one input. -/
def fnExactMendSpotWrong : ChangeSpec := { name := "fnExactMendSpot", vars := ["loop.example/g01384/impl.errOutOfRange", "loop.example/g01384/impl.errTooMany", "loop.example/g01384/impl.errNotValid", "loop.example/g01384/impl.errNoPlies", "loop.example/g01384/impl.errNoYarn", "loop.example/g01384/impl.errNothingLeft"], fn := fun _ => fun
  | [d1, d2, d3, g1, g2, g3, g4, g5, g6] => { results := [.lit (.bool false)], args := [d1, d2, d3], vars := [g1, g2, g3, g4, g5, g6] }
  | _ => none }
def FnExactMendSpotWrongFalsely : Prop := fnExactMendSpotRow.holds Tryd.pinned (OpenSpec.ofChange fnExactMendSpotWrong)

/-- 'laws.FnExactBestMend': WHATEVER THE INPUT: true; the input reads as it did. -/
def fnExactBestMendSpec : ChangeSpec := { name := "fnExactBestMend", vars := ["loop.example/g01384/impl.errOutOfRange", "loop.example/g01384/impl.errTooMany", "loop.example/g01384/impl.errNotValid", "loop.example/g01384/impl.errNoPlies", "loop.example/g01384/impl.errNoYarn", "loop.example/g01384/impl.errNothingLeft"], fn := fun _ => fun
  | [d1, d2, d3, g1, g2, g3, g4, g5, g6] => { results := [.lit (.bool true)], args := [d1, d2, d3], vars := [g1, g2, g3, g4, g5, g6] }
  | _ => none }
def fnExactBestMendRow : OpenClaim := { program := "ytcdjjijagibhlaadoor", sum := "3af0485aca13c7f538fb955d6719b259c966646abed1c4218323d677cd975cd9", func := "loop.example/g01384/laws.FnExactBestMend", spec := "fnExactBestMend", inPlace := ["internal/reflectlite.TypeOf"], unfollowed := true, recurses := true, named := ["loop.example/g01384/impl.errOutOfRange", "loop.example/g01384/impl.errTooMany", "loop.example/g01384/impl.errNotValid", "loop.example/g01384/impl.errNoPlies", "loop.example/g01384/impl.errNoYarn", "loop.example/g01384/impl.errNothingLeft"], ifaces := true, apart := false, laid := [("loop.example/g01384/impl.errNotValid", laid_loop_example_g01384_impl_errNotValid), ("loop.example/g01384/impl.errOutOfRange", laid_loop_example_g01384_impl_errOutOfRange), ("loop.example/g01384/impl.errTooMany", laid_loop_example_g01384_impl_errTooMany), ("loop.example/g01384/impl.errNoPlies", laid_loop_example_g01384_impl_errNoPlies), ("loop.example/g01384/impl.errNothingLeft", laid_loop_example_g01384_impl_errNothingLeft), ("loop.example/g01384/impl.errNoYarn", laid_loop_example_g01384_impl_errNoYarn)] }
def FnExactBestMendSaid : Prop := fnExactBestMendRow.holds Tryd.pinned (OpenSpec.ofChange fnExactBestMendSpec)

/-- ITS FALSE NEIGHBOUR: 'it returns false'. Refute it at one input. -/
def fnExactBestMendWrong : ChangeSpec := { name := "fnExactBestMend", vars := ["loop.example/g01384/impl.errOutOfRange", "loop.example/g01384/impl.errTooMany", "loop.example/g01384/impl.errNotValid", "loop.example/g01384/impl.errNoPlies", "loop.example/g01384/impl.errNoYarn", "loop.example/g01384/impl.errNothingLeft"], fn := fun _ => fun
  | [d1, d2, d3, g1, g2, g3, g4, g5, g6] => { results := [.lit (.bool false)], args := [d1, d2, d3], vars := [g1, g2, g3, g4, g5, g6] }
  | _ => none }
def FnExactBestMendWrongFalsely : Prop := fnExactBestMendRow.holds Tryd.pinned (OpenSpec.ofChange fnExactBestMendWrong)

/- THE SECOND FORM. 'bulk': how many values and letters a reading holds, each counted each time it is reached (what is shared counts as often as it is met; a slice's spare places count too). A statement '..UptoSaid' is the law's where the arguments, and the package variables that the reading takes, are together of bulk at most 1048576: NARROWER than '..Said'. Prove '..Said' where nothing that the law and all that it calls make is longer than what came in: it says more and counts as full. Else prove '..UptoSaid'. A law counts once. -/
mutual
def uptoBulk {H : Type} : DataW H → Nat
  | .lit (.string bytes) => bytes.length + 1
  | .lit _ => 1
  | .nil => 1
  | .ptr d => uptoBulk d + 1
  | .slice elems spare => uptoBulkAll elems + uptoBulkAll spare + 1
  | .agg parts => uptoBulkAll parts + 1
  | .iface _ d => uptoBulk d + 1
  | .map entries => uptoBulkEntries entries + 1
  | .held _ => 1
def uptoBulkAll {H : Type} : List (DataW H) → Nat
  | [] => 0
  | d :: r => uptoBulk d + uptoBulkAll r
def uptoBulkEntries {H : Type} : List (Lit × DataW H) → Nat
  | [] => 0
  | x :: r => uptoBulkEntry x + uptoBulkEntries r
def uptoBulkEntry {H : Type} : Lit × DataW H → Nat
  | (.string bytes, d) => bytes.length + uptoBulk d + 1
  | (_, d) => uptoBulk d + 1
 end
def uptoSmall : (H : Type) → List (DataW H) → Bool := fun _ ds => decide (uptoBulkAll ds ≤ 1048576)
def OpenSpec.upto (s : _root_.Go.ChangeSpec) : _root_.Go.OpenSpec := { _root_.Go.OpenSpec.ofChange s with cond := some uptoSmall }

/-- 'laws.FnExactWeekLater', WHERE WHAT IT READS IS OF BULK AT MOST 1048576: true; the input reads as it did. -/
def fnExactWeekLaterUptoRow : OpenClaim := { program := "ytcdjjijagibhlaadoor", sum := "3af0485aca13c7f538fb955d6719b259c966646abed1c4218323d677cd975cd9", func := "loop.example/g01384/laws.FnExactWeekLater", spec := "fnExactWeekLater", inPlace := ["internal/reflectlite.TypeOf"], unfollowed := true, recurses := true, named := ["loop.example/g01384/impl.errOutOfRange", "loop.example/g01384/impl.errTooMany", "loop.example/g01384/impl.errNotValid", "loop.example/g01384/impl.errNoPlies", "loop.example/g01384/impl.errNoYarn", "loop.example/g01384/impl.errNothingLeft"], ifaces := true, apart := false, laid := [("loop.example/g01384/impl.errNotValid", laid_loop_example_g01384_impl_errNotValid), ("loop.example/g01384/impl.errOutOfRange", laid_loop_example_g01384_impl_errOutOfRange), ("loop.example/g01384/impl.errTooMany", laid_loop_example_g01384_impl_errTooMany), ("loop.example/g01384/impl.errNoPlies", laid_loop_example_g01384_impl_errNoPlies), ("loop.example/g01384/impl.errNothingLeft", laid_loop_example_g01384_impl_errNothingLeft), ("loop.example/g01384/impl.errNoYarn", laid_loop_example_g01384_impl_errNoYarn)], narrowed := true }
def FnExactWeekLaterUptoSaid : Prop := fnExactWeekLaterUptoRow.holds Tryd.pinned (OpenSpec.upto fnExactWeekLaterSpec)

/-- 'laws.FnExactWeeksLater', WHERE WHAT IT READS IS OF BULK AT MOST 1048576: true; the input reads as it did. -/
def fnExactWeeksLaterUptoRow : OpenClaim := { program := "ytcdjjijagibhlaadoor", sum := "3af0485aca13c7f538fb955d6719b259c966646abed1c4218323d677cd975cd9", func := "loop.example/g01384/laws.FnExactWeeksLater", spec := "fnExactWeeksLater", inPlace := ["internal/reflectlite.TypeOf"], unfollowed := true, recurses := true, named := ["loop.example/g01384/impl.errOutOfRange", "loop.example/g01384/impl.errTooMany", "loop.example/g01384/impl.errNotValid", "loop.example/g01384/impl.errNoPlies", "loop.example/g01384/impl.errNoYarn", "loop.example/g01384/impl.errNothingLeft"], ifaces := true, apart := false, laid := [("loop.example/g01384/impl.errNotValid", laid_loop_example_g01384_impl_errNotValid), ("loop.example/g01384/impl.errOutOfRange", laid_loop_example_g01384_impl_errOutOfRange), ("loop.example/g01384/impl.errTooMany", laid_loop_example_g01384_impl_errTooMany), ("loop.example/g01384/impl.errNoPlies", laid_loop_example_g01384_impl_errNoPlies), ("loop.example/g01384/impl.errNothingLeft", laid_loop_example_g01384_impl_errNothingLeft), ("loop.example/g01384/impl.errNoYarn", laid_loop_example_g01384_impl_errNoYarn)], narrowed := true }
def FnExactWeeksLaterUptoSaid : Prop := fnExactWeeksLaterUptoRow.holds Tryd.pinned (OpenSpec.upto fnExactWeeksLaterSpec)

/-- 'laws.FnExactStaysFor', WHERE WHAT IT READS IS OF BULK AT MOST 1048576: true; the input reads as it did. -/
def fnExactStaysForUptoRow : OpenClaim := { program := "ytcdjjijagibhlaadoor", sum := "3af0485aca13c7f538fb955d6719b259c966646abed1c4218323d677cd975cd9", func := "loop.example/g01384/laws.FnExactStaysFor", spec := "fnExactStaysFor", inPlace := ["internal/reflectlite.TypeOf"], unfollowed := true, recurses := true, named := ["loop.example/g01384/impl.errOutOfRange", "loop.example/g01384/impl.errTooMany", "loop.example/g01384/impl.errNotValid", "loop.example/g01384/impl.errNoPlies", "loop.example/g01384/impl.errNoYarn", "loop.example/g01384/impl.errNothingLeft"], ifaces := true, apart := false, laid := [("loop.example/g01384/impl.errNotValid", laid_loop_example_g01384_impl_errNotValid), ("loop.example/g01384/impl.errOutOfRange", laid_loop_example_g01384_impl_errOutOfRange), ("loop.example/g01384/impl.errTooMany", laid_loop_example_g01384_impl_errTooMany), ("loop.example/g01384/impl.errNoPlies", laid_loop_example_g01384_impl_errNoPlies), ("loop.example/g01384/impl.errNothingLeft", laid_loop_example_g01384_impl_errNothingLeft), ("loop.example/g01384/impl.errNoYarn", laid_loop_example_g01384_impl_errNoYarn)], narrowed := true }
def FnExactStaysForUptoSaid : Prop := fnExactStaysForUptoRow.holds Tryd.pinned (OpenSpec.upto fnExactStaysForSpec)

/-- 'laws.FnExactWeeksUntil', WHERE WHAT IT READS IS OF BULK AT MOST 1048576: true; the input reads as it did. -/
def fnExactWeeksUntilUptoRow : OpenClaim := { program := "ytcdjjijagibhlaadoor", sum := "3af0485aca13c7f538fb955d6719b259c966646abed1c4218323d677cd975cd9", func := "loop.example/g01384/laws.FnExactWeeksUntil", spec := "fnExactWeeksUntil", inPlace := ["internal/reflectlite.TypeOf"], unfollowed := true, recurses := true, named := ["loop.example/g01384/impl.errOutOfRange", "loop.example/g01384/impl.errTooMany", "loop.example/g01384/impl.errNotValid", "loop.example/g01384/impl.errNoPlies", "loop.example/g01384/impl.errNoYarn", "loop.example/g01384/impl.errNothingLeft"], ifaces := true, apart := false, laid := [("loop.example/g01384/impl.errNotValid", laid_loop_example_g01384_impl_errNotValid), ("loop.example/g01384/impl.errOutOfRange", laid_loop_example_g01384_impl_errOutOfRange), ("loop.example/g01384/impl.errTooMany", laid_loop_example_g01384_impl_errTooMany), ("loop.example/g01384/impl.errNoPlies", laid_loop_example_g01384_impl_errNoPlies), ("loop.example/g01384/impl.errNothingLeft", laid_loop_example_g01384_impl_errNothingLeft), ("loop.example/g01384/impl.errNoYarn", laid_loop_example_g01384_impl_errNoYarn)], narrowed := true }
def FnExactWeeksUntilUptoSaid : Prop := fnExactWeeksUntilUptoRow.holds Tryd.pinned (OpenSpec.upto fnExactWeeksUntilSpec)

/-- 'laws.FnExactMendSpot', WHERE WHAT IT READS IS OF BULK AT MOST 1048576: true; the input reads as it did. -/
def fnExactMendSpotUptoRow : OpenClaim := { program := "ytcdjjijagibhlaadoor", sum := "3af0485aca13c7f538fb955d6719b259c966646abed1c4218323d677cd975cd9", func := "loop.example/g01384/laws.FnExactMendSpot", spec := "fnExactMendSpot", inPlace := ["internal/reflectlite.TypeOf"], unfollowed := true, recurses := true, named := ["loop.example/g01384/impl.errOutOfRange", "loop.example/g01384/impl.errTooMany", "loop.example/g01384/impl.errNotValid", "loop.example/g01384/impl.errNoPlies", "loop.example/g01384/impl.errNoYarn", "loop.example/g01384/impl.errNothingLeft"], ifaces := true, apart := false, laid := [("loop.example/g01384/impl.errNotValid", laid_loop_example_g01384_impl_errNotValid), ("loop.example/g01384/impl.errOutOfRange", laid_loop_example_g01384_impl_errOutOfRange), ("loop.example/g01384/impl.errTooMany", laid_loop_example_g01384_impl_errTooMany), ("loop.example/g01384/impl.errNoPlies", laid_loop_example_g01384_impl_errNoPlies), ("loop.example/g01384/impl.errNothingLeft", laid_loop_example_g01384_impl_errNothingLeft), ("loop.example/g01384/impl.errNoYarn", laid_loop_example_g01384_impl_errNoYarn)], narrowed := true }
def FnExactMendSpotUptoSaid : Prop := fnExactMendSpotUptoRow.holds Tryd.pinned (OpenSpec.upto fnExactMendSpotSpec)

/-- 'laws.FnExactBestMend', WHERE WHAT IT READS IS OF BULK AT MOST 1048576: true; the input reads as it did. -/
def fnExactBestMendUptoRow : OpenClaim := { program := "ytcdjjijagibhlaadoor", sum := "3af0485aca13c7f538fb955d6719b259c966646abed1c4218323d677cd975cd9", func := "loop.example/g01384/laws.FnExactBestMend", spec := "fnExactBestMend", inPlace := ["internal/reflectlite.TypeOf"], unfollowed := true, recurses := true, named := ["loop.example/g01384/impl.errOutOfRange", "loop.example/g01384/impl.errTooMany", "loop.example/g01384/impl.errNotValid", "loop.example/g01384/impl.errNoPlies", "loop.example/g01384/impl.errNoYarn", "loop.example/g01384/impl.errNothingLeft"], ifaces := true, apart := false, laid := [("loop.example/g01384/impl.errNotValid", laid_loop_example_g01384_impl_errNotValid), ("loop.example/g01384/impl.errOutOfRange", laid_loop_example_g01384_impl_errOutOfRange), ("loop.example/g01384/impl.errTooMany", laid_loop_example_g01384_impl_errTooMany), ("loop.example/g01384/impl.errNoPlies", laid_loop_example_g01384_impl_errNoPlies), ("loop.example/g01384/impl.errNothingLeft", laid_loop_example_g01384_impl_errNothingLeft), ("loop.example/g01384/impl.errNoYarn", laid_loop_example_g01384_impl_errNoYarn)], narrowed := true }
def FnExactBestMendUptoSaid : Prop := fnExactBestMendUptoRow.holds Tryd.pinned (OpenSpec.upto fnExactBestMendSpec)

end Rows
end Go.Proofs.YtcdjjijagibhlaaDoor
