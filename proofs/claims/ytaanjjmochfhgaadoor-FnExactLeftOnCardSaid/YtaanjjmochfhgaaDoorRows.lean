/-
  NARROWER THAN 'FOR EVERY INPUT', by the rows' own cells (each row's printed sentence says how): FnExactOnReel: ifaces, laid · FnExactCheckReels: ifaces, laid · FnExactLeftOn: ifaces, laid · FnExactFirstReels: ifaces, laid.
  DERIVED. THE GIVEN ROWS OF THIS SEAT. 4 by the template 'for every input the law returns true; each argument reads behind the call as it read before'; 0 by the template 'total and deterministic' (their statements: YtaanjjmochfhgaaDoorTotals.lean).
  GIVEN WITH THE SEED: the statements are not yours to turn. If you find one false, say at which input.
  Laid BY PROGRAM, IN A SANDBOX (cutbox-rows.mjs): the forced cells as the released guide's own fill.sh prints them over the translation 878430a5a350b0d7… (all of the seat's roots in one cut). By AI agents, Wed Nov 11 2026. No macro, syntax, notation, axiom, sorry.
-/
import Derived.Test.YtaanjjmochfhgaaDoorChecked
import GoSem.Claim
import GoSem.ClaimJoined
import GoSem.ClaimMapViews
import Derived.JoinedTies
import Derived.KernelRfl
namespace Go.Proofs.YtaanjjmochfhgaaDoor
/- THE CELL 'sum', in the pinned program and in every row, IS THE sha256 OF THE DUMP (.gsa) THAT YtaanjjmochfhgaaDoorProg.lean LOADS. Nothing in Lean hashes anything: it is a label: what it is worth is what the hold of that sum in a sandbox is worth. -/
noncomputable def Tryd.pinned : Pinned := { name := "ytaanjjmochfhgaadoor", sum := "878430a5a350b0d7387668a81bfe4fd562954b353516dffdccdd09fd200c8230", checked := Tryd.checked }
namespace Rows
def none {H : Type} : Left H := { results := [], args := [] }

/- WHAT THE LISTED PACKAGE-LEVEL VARIABLES READ AS WHEN THE CALL BEGINS. Each datum BY PROGRAM (the guide's laid-datum.mjs) off the statement by which the dump's own 'gosem.cut.vars' lays the variable. In a bare row this is a premise. The card (YtaanjjmochfhgaaDoorCards.lean) ties it to the program's text. -/
def laid_loop_example_g01384_impl_errNotValid {H : Type} : DataW H := .iface "*errors.errorString" (.ptr (.agg [.lit (.string [97, 32, 121, 97, 114, 110, 32, 105, 115, 32, 110, 111, 116, 32, 118, 97, 108, 105, 100])]))
def laid_loop_example_g01384_impl_errOutOfRange {H : Type} : DataW H := .iface "*errors.errorString" (.ptr (.agg [.lit (.string [97, 32, 110, 117, 109, 98, 101, 114, 32, 105, 115, 32, 111, 117, 116, 32, 111, 102, 32, 105, 116, 115, 32, 114, 97, 110, 103, 101])]))
def laid_loop_example_g01384_impl_errTooMany {H : Type} : DataW H := .iface "*errors.errorString" (.ptr (.agg [.lit (.string [116, 104, 101, 114, 101, 32, 97, 114, 101, 32, 116, 111, 111, 32, 109, 97, 110, 121])]))
def laid_loop_example_g01384_impl_errNoPlies {H : Type} : DataW H := .iface "*errors.errorString" (.ptr (.agg [.lit (.string [116, 104, 101, 115, 101, 32, 97, 114, 101, 32, 110, 111, 32, 112, 108, 105, 101, 115])]))
def laid_loop_example_g01384_impl_errNothingLeft {H : Type} : DataW H := .iface "*errors.errorString" (.ptr (.agg [.lit (.string [108, 101, 115, 115, 32, 116, 104, 97, 110, 32, 111, 110, 101, 32, 109, 101, 116, 114, 101, 32, 105, 115, 32, 108, 101, 102, 116])]))
def laid_loop_example_g01384_impl_errNoYarn {H : Type} : DataW H := .iface "*errors.errorString" (.ptr (.agg [.lit (.string [116, 104, 105, 115, 32, 105, 115, 32, 110, 111, 32, 116, 101, 120, 116, 32, 111, 102, 32, 97, 32, 121, 97, 114, 110])]))

/-- 'laws.FnExactOnReel': WHATEVER THE INPUT: true; the input reads as it did. -/
def fnExactOnReelSpec : ChangeSpec := { name := "fnExactOnReel", vars := ["loop.example/g01384/impl.errOutOfRange", "loop.example/g01384/impl.errTooMany", "loop.example/g01384/impl.errNotValid", "loop.example/g01384/impl.errNoPlies", "loop.example/g01384/impl.errNoYarn", "loop.example/g01384/impl.errNothingLeft"], fn := fun _ => fun
  | [d1, d2, d3, g1, g2, g3, g4, g5, g6] => { results := [.lit (.bool true)], args := [d1, d2, d3], vars := [g1, g2, g3, g4, g5, g6] }
  | _ => none }
def fnExactOnReelRow : OpenClaim := { program := "ytaanjjmochfhgaadoor", sum := "878430a5a350b0d7387668a81bfe4fd562954b353516dffdccdd09fd200c8230", func := "loop.example/g01384/laws.FnExactOnReel", spec := "fnExactOnReel", inPlace := ["internal/reflectlite.TypeOf"], unfollowed := true, recurses := true, named := ["loop.example/g01384/impl.errOutOfRange", "loop.example/g01384/impl.errTooMany", "loop.example/g01384/impl.errNotValid", "loop.example/g01384/impl.errNoPlies", "loop.example/g01384/impl.errNoYarn", "loop.example/g01384/impl.errNothingLeft"], ifaces := true, apart := false, laid := [("loop.example/g01384/impl.errNotValid", laid_loop_example_g01384_impl_errNotValid), ("loop.example/g01384/impl.errOutOfRange", laid_loop_example_g01384_impl_errOutOfRange), ("loop.example/g01384/impl.errTooMany", laid_loop_example_g01384_impl_errTooMany), ("loop.example/g01384/impl.errNoPlies", laid_loop_example_g01384_impl_errNoPlies), ("loop.example/g01384/impl.errNothingLeft", laid_loop_example_g01384_impl_errNothingLeft), ("loop.example/g01384/impl.errNoYarn", laid_loop_example_g01384_impl_errNoYarn)] }
def FnExactOnReelSaid : Prop := fnExactOnReelRow.holds Tryd.pinned (OpenSpec.ofChange fnExactOnReelSpec)

/-- ITS FALSE NEIGHBOUR: 'it returns false'. Refute it at one input. -/
def fnExactOnReelWrong : ChangeSpec := { name := "fnExactOnReel", vars := ["loop.example/g01384/impl.errOutOfRange", "loop.example/g01384/impl.errTooMany", "loop.example/g01384/impl.errNotValid", "loop.example/g01384/impl.errNoPlies", "loop.example/g01384/impl.errNoYarn", "loop.example/g01384/impl.errNothingLeft"], fn := fun _ => fun
  | [d1, d2, d3, g1, g2, g3, g4, g5, g6] => { results := [.lit (.bool false)], args := [d1, d2, d3], vars := [g1, g2, g3, g4, g5, g6] }
  | _ => none }
def FnExactOnReelWrongFalsely : Prop := fnExactOnReelRow.holds Tryd.pinned (OpenSpec.ofChange fnExactOnReelWrong)

/-- 'laws.FnExactCheckReels': WHATEVER THE INPUT: true; the input reads as it did. -/
def fnExactCheckReelsSpec : ChangeSpec := { name := "fnExactCheckReels", vars := ["loop.example/g01384/impl.errOutOfRange", "loop.example/g01384/impl.errTooMany", "loop.example/g01384/impl.errNotValid", "loop.example/g01384/impl.errNoPlies", "loop.example/g01384/impl.errNoYarn", "loop.example/g01384/impl.errNothingLeft"], fn := fun _ => fun
  | [d1, d2, d3, d4, g1, g2, g3, g4, g5, g6] => { results := [.lit (.bool true)], args := [d1, d2, d3, d4], vars := [g1, g2, g3, g4, g5, g6] }
  | _ => none }
def fnExactCheckReelsRow : OpenClaim := { program := "ytaanjjmochfhgaadoor", sum := "878430a5a350b0d7387668a81bfe4fd562954b353516dffdccdd09fd200c8230", func := "loop.example/g01384/laws.FnExactCheckReels", spec := "fnExactCheckReels", inPlace := ["internal/reflectlite.TypeOf"], unfollowed := true, recurses := true, named := ["loop.example/g01384/impl.errOutOfRange", "loop.example/g01384/impl.errTooMany", "loop.example/g01384/impl.errNotValid", "loop.example/g01384/impl.errNoPlies", "loop.example/g01384/impl.errNoYarn", "loop.example/g01384/impl.errNothingLeft"], ifaces := true, apart := false, laid := [("loop.example/g01384/impl.errNotValid", laid_loop_example_g01384_impl_errNotValid), ("loop.example/g01384/impl.errOutOfRange", laid_loop_example_g01384_impl_errOutOfRange), ("loop.example/g01384/impl.errTooMany", laid_loop_example_g01384_impl_errTooMany), ("loop.example/g01384/impl.errNoPlies", laid_loop_example_g01384_impl_errNoPlies), ("loop.example/g01384/impl.errNothingLeft", laid_loop_example_g01384_impl_errNothingLeft), ("loop.example/g01384/impl.errNoYarn", laid_loop_example_g01384_impl_errNoYarn)] }
def FnExactCheckReelsSaid : Prop := fnExactCheckReelsRow.holds Tryd.pinned (OpenSpec.ofChange fnExactCheckReelsSpec)

/-- ITS FALSE NEIGHBOUR: 'it returns false'. Refute it at one input. -/
def fnExactCheckReelsWrong : ChangeSpec := { name := "fnExactCheckReels", vars := ["loop.example/g01384/impl.errOutOfRange", "loop.example/g01384/impl.errTooMany", "loop.example/g01384/impl.errNotValid", "loop.example/g01384/impl.errNoPlies", "loop.example/g01384/impl.errNoYarn", "loop.example/g01384/impl.errNothingLeft"], fn := fun _ => fun
  | [d1, d2, d3, d4, g1, g2, g3, g4, g5, g6] => { results := [.lit (.bool false)], args := [d1, d2, d3, d4], vars := [g1, g2, g3, g4, g5, g6] }
  | _ => none }
def FnExactCheckReelsWrongFalsely : Prop := fnExactCheckReelsRow.holds Tryd.pinned (OpenSpec.ofChange fnExactCheckReelsWrong)

/-- 'laws.FnExactLeftOn': WHATEVER THE INPUT: true; the input reads as it did. -/
def fnExactLeftOnSpec : ChangeSpec := { name := "fnExactLeftOn", vars := ["loop.example/g01384/impl.errOutOfRange", "loop.example/g01384/impl.errTooMany", "loop.example/g01384/impl.errNotValid", "loop.example/g01384/impl.errNoPlies", "loop.example/g01384/impl.errNoYarn", "loop.example/g01384/impl.errNothingLeft"], fn := fun _ => fun
  | [d1, d2, d3, g1, g2, g3, g4, g5, g6] => { results := [.lit (.bool true)], args := [d1, d2, d3], vars := [g1, g2, g3, g4, g5, g6] }
  | _ => none }
def fnExactLeftOnRow : OpenClaim := { program := "ytaanjjmochfhgaadoor", sum := "878430a5a350b0d7387668a81bfe4fd562954b353516dffdccdd09fd200c8230", func := "loop.example/g01384/laws.FnExactLeftOn", spec := "fnExactLeftOn", inPlace := ["internal/reflectlite.TypeOf"], unfollowed := true, recurses := true, named := ["loop.example/g01384/impl.errOutOfRange", "loop.example/g01384/impl.errTooMany", "loop.example/g01384/impl.errNotValid", "loop.example/g01384/impl.errNoPlies", "loop.example/g01384/impl.errNoYarn", "loop.example/g01384/impl.errNothingLeft"], ifaces := true, apart := false, laid := [("loop.example/g01384/impl.errNotValid", laid_loop_example_g01384_impl_errNotValid), ("loop.example/g01384/impl.errOutOfRange", laid_loop_example_g01384_impl_errOutOfRange), ("loop.example/g01384/impl.errTooMany", laid_loop_example_g01384_impl_errTooMany), ("loop.example/g01384/impl.errNoPlies", laid_loop_example_g01384_impl_errNoPlies), ("loop.example/g01384/impl.errNothingLeft", laid_loop_example_g01384_impl_errNothingLeft), ("loop.example/g01384/impl.errNoYarn", laid_loop_example_g01384_impl_errNoYarn)] }
def FnExactLeftOnSaid : Prop := fnExactLeftOnRow.holds Tryd.pinned (OpenSpec.ofChange fnExactLeftOnSpec)

/-- ITS FALSE NEIGHBOUR: 'it returns false'. Refute it at one input. -/
def fnExactLeftOnWrong : ChangeSpec := { name := "fnExactLeftOn", vars := ["loop.example/g01384/impl.errOutOfRange", "loop.example/g01384/impl.errTooMany", "loop.example/g01384/impl.errNotValid", "loop.example/g01384/impl.errNoPlies", "loop.example/g01384/impl.errNoYarn", "loop.example/g01384/impl.errNothingLeft"], fn := fun _ => fun
  | [d1, d2, d3, g1, g2, g3, g4, g5, g6] => { results := [.lit (.bool false)], args := [d1, d2, d3], vars := [g1, g2, g3, g4, g5, g6] }
  | _ => none }
def FnExactLeftOnWrongFalsely : Prop := fnExactLeftOnRow.holds Tryd.pinned (OpenSpec.ofChange fnExactLeftOnWrong)

/-- 'laws.FnExactFirstReels': WHATEVER THE INPUT: true; the input reads as it did. -/
def fnExactFirstReelsSpec : ChangeSpec := { name := "fnExactFirstReels", vars := ["loop.example/g01384/impl.errOutOfRange", "loop.example/g01384/impl.errTooMany", "loop.example/g01384/impl.errNotValid", "loop.example/g01384/impl.errNoPlies", "loop.example/g01384/impl.errNoYarn", "loop.example/g01384/impl.errNothingLeft"], fn := fun _ => fun
  | [d1, d2, d3, g1, g2, g3, g4, g5, g6] => { results := [.lit (.bool true)], args := [d1, d2, d3], vars := [g1, g2, g3, g4, g5, g6] }
  | _ => none }
def fnExactFirstReelsRow : OpenClaim := { program := "ytaanjjmochfhgaadoor", sum := "878430a5a350b0d7387668a81bfe4fd562954b353516dffdccdd09fd200c8230", func := "loop.example/g01384/laws.FnExactFirstReels", spec := "fnExactFirstReels", inPlace := ["internal/reflectlite.TypeOf"], unfollowed := true, recurses := true, named := ["loop.example/g01384/impl.errOutOfRange", "loop.example/g01384/impl.errTooMany", "loop.example/g01384/impl.errNotValid", "loop.example/g01384/impl.errNoPlies", "loop.example/g01384/impl.errNoYarn", "loop.example/g01384/impl.errNothingLeft"], ifaces := true, apart := false, laid := [("loop.example/g01384/impl.errNotValid", laid_loop_example_g01384_impl_errNotValid), ("loop.example/g01384/impl.errOutOfRange", laid_loop_example_g01384_impl_errOutOfRange), ("loop.example/g01384/impl.errTooMany", laid_loop_example_g01384_impl_errTooMany), ("loop.example/g01384/impl.errNoPlies", laid_loop_example_g01384_impl_errNoPlies), ("loop.example/g01384/impl.errNothingLeft", laid_loop_example_g01384_impl_errNothingLeft), ("loop.example/g01384/impl.errNoYarn", laid_loop_example_g01384_impl_errNoYarn)] }
def FnExactFirstReelsSaid : Prop := fnExactFirstReelsRow.holds Tryd.pinned (OpenSpec.ofChange fnExactFirstReelsSpec)

/-- ITS FALSE NEIGHBOUR: 'it returns false'. Refute it at one input. -/
def fnExactFirstReelsWrong : ChangeSpec := { name := "fnExactFirstReels", vars := ["loop.example/g01384/impl.errOutOfRange", "loop.example/g01384/impl.errTooMany", "loop.example/g01384/impl.errNotValid", "loop.example/g01384/impl.errNoPlies", "loop.example/g01384/impl.errNoYarn", "loop.example/g01384/impl.errNothingLeft"], fn := fun _ => fun
  | [d1, d2, d3, g1, g2, g3, g4, g5, g6] => { results := [.lit (.bool false)], args := [d1, d2, d3], vars := [g1, g2, g3, g4, g5, g6] }
  | _ => none }
def FnExactFirstReelsWrongFalsely : Prop := fnExactFirstReelsRow.holds Tryd.pinned (OpenSpec.ofChange fnExactFirstReelsWrong)

/- THE SECOND FORM. 'bulk': how many values and letters a reading holds, each counted each time it is reached (what is shared counts as often as it is met; a slice's spare places count too). A statement '..UptoSaid' is the law's where the arguments, and the package variables that the reading takes, are together of bulk at most 1048576: NARROWER than '..Said'. Prove '..Said' where nothing that the law and all that it calls make is longer than what came in: it says more and counts as full. Else prove '..UptoSaid'. A law counts once. -/
mutual
def uptoBulk {H : Type} : DataW H → Nat
  | .lit (.string bytes) => bytes.length + 1
  | .lit _ => 1
  | .nil => 1
  | .ptr d => uptoBulk d + 1
  | .slice elems spare => uptoBulkAll elems + uptoBulkAll spare + 1
  | .agg parts => uptoBulkAll parts + 1
  | .iface _ d => uptoBulk d + 1
  | .map entries => uptoBulkEntries entries + 1
  | .held _ => 1
def uptoBulkAll {H : Type} : List (DataW H) → Nat
  | [] => 0
  | d :: r => uptoBulk d + uptoBulkAll r
def uptoBulkEntries {H : Type} : List (Lit × DataW H) → Nat
  | [] => 0
  | x :: r => uptoBulkEntry x + uptoBulkEntries r
def uptoBulkEntry {H : Type} : Lit × DataW H → Nat
  | (.string bytes, d) => bytes.length + uptoBulk d + 1
  | (_, d) => uptoBulk d + 1
 end
def uptoSmall : (H : Type) → List (DataW H) → Bool := fun _ ds => decide (uptoBulkAll ds ≤ 1048576)
def OpenSpec.upto (s : _root_.Go.ChangeSpec) : _root_.Go.OpenSpec := { _root_.Go.OpenSpec.ofChange s with cond := some uptoSmall }

/-- 'laws.FnExactOnReel', WHERE WHAT IT READS IS OF BULK AT MOST 1048576: true; the input reads as it did. -/
def fnExactOnReelUptoRow : OpenClaim := { program := "ytaanjjmochfhgaadoor", sum := "878430a5a350b0d7387668a81bfe4fd562954b353516dffdccdd09fd200c8230", func := "loop.example/g01384/laws.FnExactOnReel", spec := "fnExactOnReel", inPlace := ["internal/reflectlite.TypeOf"], unfollowed := true, recurses := true, named := ["loop.example/g01384/impl.errOutOfRange", "loop.example/g01384/impl.errTooMany", "loop.example/g01384/impl.errNotValid", "loop.example/g01384/impl.errNoPlies", "loop.example/g01384/impl.errNoYarn", "loop.example/g01384/impl.errNothingLeft"], ifaces := true, apart := false, laid := [("loop.example/g01384/impl.errNotValid", laid_loop_example_g01384_impl_errNotValid), ("loop.example/g01384/impl.errOutOfRange", laid_loop_example_g01384_impl_errOutOfRange), ("loop.example/g01384/impl.errTooMany", laid_loop_example_g01384_impl_errTooMany), ("loop.example/g01384/impl.errNoPlies", laid_loop_example_g01384_impl_errNoPlies), ("loop.example/g01384/impl.errNothingLeft", laid_loop_example_g01384_impl_errNothingLeft), ("loop.example/g01384/impl.errNoYarn", laid_loop_example_g01384_impl_errNoYarn)], narrowed := true }
def FnExactOnReelUptoSaid : Prop := fnExactOnReelUptoRow.holds Tryd.pinned (OpenSpec.upto fnExactOnReelSpec)

/-- 'laws.FnExactCheckReels', WHERE WHAT IT READS IS OF BULK AT MOST 1048576: true; the input reads as it did. -/
def fnExactCheckReelsUptoRow : OpenClaim := { program := "ytaanjjmochfhgaadoor", sum := "878430a5a350b0d7387668a81bfe4fd562954b353516dffdccdd09fd200c8230", func := "loop.example/g01384/laws.FnExactCheckReels", spec := "fnExactCheckReels", inPlace := ["internal/reflectlite.TypeOf"], unfollowed := true, recurses := true, named := ["loop.example/g01384/impl.errOutOfRange", "loop.example/g01384/impl.errTooMany", "loop.example/g01384/impl.errNotValid", "loop.example/g01384/impl.errNoPlies", "loop.example/g01384/impl.errNoYarn", "loop.example/g01384/impl.errNothingLeft"], ifaces := true, apart := false, laid := [("loop.example/g01384/impl.errNotValid", laid_loop_example_g01384_impl_errNotValid), ("loop.example/g01384/impl.errOutOfRange", laid_loop_example_g01384_impl_errOutOfRange), ("loop.example/g01384/impl.errTooMany", laid_loop_example_g01384_impl_errTooMany), ("loop.example/g01384/impl.errNoPlies", laid_loop_example_g01384_impl_errNoPlies), ("loop.example/g01384/impl.errNothingLeft", laid_loop_example_g01384_impl_errNothingLeft), ("loop.example/g01384/impl.errNoYarn", laid_loop_example_g01384_impl_errNoYarn)], narrowed := true }
def FnExactCheckReelsUptoSaid : Prop := fnExactCheckReelsUptoRow.holds Tryd.pinned (OpenSpec.upto fnExactCheckReelsSpec)

/-- 'laws.FnExactLeftOn', WHERE WHAT IT READS IS OF BULK AT MOST 1048576: true; the input reads as it did. -/
def fnExactLeftOnUptoRow : OpenClaim := { program := "ytaanjjmochfhgaadoor", sum := "878430a5a350b0d7387668a81bfe4fd562954b353516dffdccdd09fd200c8230", func := "loop.example/g01384/laws.FnExactLeftOn", spec := "fnExactLeftOn", inPlace := ["internal/reflectlite.TypeOf"], unfollowed := true, recurses := true, named := ["loop.example/g01384/impl.errOutOfRange", "loop.example/g01384/impl.errTooMany", "loop.example/g01384/impl.errNotValid", "loop.example/g01384/impl.errNoPlies", "loop.example/g01384/impl.errNoYarn", "loop.example/g01384/impl.errNothingLeft"], ifaces := true, apart := false, laid := [("loop.example/g01384/impl.errNotValid", laid_loop_example_g01384_impl_errNotValid), ("loop.example/g01384/impl.errOutOfRange", laid_loop_example_g01384_impl_errOutOfRange), ("loop.example/g01384/impl.errTooMany", laid_loop_example_g01384_impl_errTooMany), ("loop.example/g01384/impl.errNoPlies", laid_loop_example_g01384_impl_errNoPlies), ("loop.example/g01384/impl.errNothingLeft", laid_loop_example_g01384_impl_errNothingLeft), ("loop.example/g01384/impl.errNoYarn", laid_loop_example_g01384_impl_errNoYarn)], narrowed := true }
def FnExactLeftOnUptoSaid : Prop := fnExactLeftOnUptoRow.holds Tryd.pinned (OpenSpec.upto fnExactLeftOnSpec)

/-- 'laws.FnExactFirstReels', WHERE WHAT IT READS IS OF BULK AT MOST 1048576: true; the input reads as it did. -/
def fnExactFirstReelsUptoRow : OpenClaim := { program := "ytaanjjmochfhgaadoor", sum := "878430a5a350b0d7387668a81bfe4fd562954b353516dffdccdd09fd200c8230", func := "loop.example/g01384/laws.FnExactFirstReels", spec := "fnExactFirstReels", inPlace := ["internal/reflectlite.TypeOf"], unfollowed := true, recurses := true, named := ["loop.example/g01384/impl.errOutOfRange", "loop.example/g01384/impl.errTooMany", "loop.example/g01384/impl.errNotValid", "loop.example/g01384/impl.errNoPlies", "loop.example/g01384/impl.errNoYarn", "loop.example/g01384/impl.errNothingLeft"], ifaces := true, apart := false, laid := [("loop.example/g01384/impl.errNotValid", laid_loop_example_g01384_impl_errNotValid), ("loop.example/g01384/impl.errOutOfRange", laid_loop_example_g01384_impl_errOutOfRange), ("loop.example/g01384/impl.errTooMany", laid_loop_example_g01384_impl_errTooMany), ("loop.example/g01384/impl.errNoPlies", laid_loop_example_g01384_impl_errNoPlies), ("loop.example/g01384/impl.errNothingLeft", laid_loop_example_g01384_impl_errNothingLeft), ("loop.example/g01384/impl.errNoYarn", laid_loop_example_g01384_impl_errNoYarn)], narrowed := true }
def FnExactFirstReelsUptoSaid : Prop := fnExactFirstReelsUptoRow.holds Tryd.pinned (OpenSpec.upto fnExactFirstReelsSpec)

end Rows
end Go.Proofs.YtaanjjmochfhgaaDoor
