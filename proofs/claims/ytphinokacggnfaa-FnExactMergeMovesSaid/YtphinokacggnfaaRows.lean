/-
  No cell of these rows narrows 'for every input' (looked for: loops, veiled, ifaces, maps, wideKeys, modest, calm, conditions, laid).
  DERIVED. THE GIVEN ROWS OF THIS SEAT. 9 by the template 'for every input the law returns true; each argument reads behind the call as it read before'; 0 by the template 'total and deterministic' (their statements: YtphinokacggnfaaTotals.lean).
  GIVEN WITH THE SEED: the statements are not yours to turn. If you find one false, say at which input.
  Laid BY PROGRAM, IN A SANDBOX (cutbox-rows.mjs): the forced cells as the released guide's own fill.sh prints them over the translation c6cc59a70ad026ff… (all of the seat's roots in one cut). By AI agents, Wed Nov 11 2026. No macro, syntax, notation, axiom, sorry.
-/
import Derived.Test.YtphinokacggnfaaChecked
import GoSem.Claim
import GoSem.ClaimJoined
import GoSem.ClaimMapViews
import Derived.JoinedTies
import Derived.KernelRfl
namespace Go.Proofs.Ytphinokacggnfaa
/- THE CELL 'sum', in the pinned program and in every row, IS THE sha256 OF THE DUMP (.gsa) THAT YtphinokacggnfaaProg.lean LOADS. Nothing in Lean hashes anything: it is a label: what it is worth is what the hold of that sum in a sandbox is worth. -/
noncomputable def Try.pinned : Pinned := { name := "ytphinokacggnfaa", sum := "c6cc59a70ad026ff8a6326017b41ad3586dea096553998f0b2f5cf4abc551078", checked := Try.checked }
namespace Rows
def none {H : Type} : Left H := { results := [], args := [] }

/-- 'laws.FnExactValidMoves': WHATEVER THE INPUT: true; the input reads as it did. -/
def fnExactValidMovesSpec : ChangeSpec := { name := "fnExactValidMoves", fn := fun _ => fun
  | [d] => { results := [.lit (.bool true)], args := [d] }
  | _ => none }
def fnExactValidMovesRow : OpenClaim := { program := "ytphinokacggnfaa", sum := "c6cc59a70ad026ff8a6326017b41ad3586dea096553998f0b2f5cf4abc551078", func := "loop.example/g01384/laws.FnExactValidMoves", spec := "fnExactValidMoves", apart := false }
def FnExactValidMovesSaid : Prop := fnExactValidMovesRow.holds Try.pinned (OpenSpec.ofChange fnExactValidMovesSpec)

/-- ITS FALSE NEIGHBOUR: 'it returns false'. Refute it at one input. -/
def fnExactValidMovesWrong : ChangeSpec := { name := "fnExactValidMoves", fn := fun _ => fun
  | [d] => { results := [.lit (.bool false)], args := [d] }
  | _ => none }
def FnExactValidMovesWrongFalsely : Prop := fnExactValidMovesRow.holds Try.pinned (OpenSpec.ofChange fnExactValidMovesWrong)

/-- 'laws.FnExactMayMove': WHATEVER THE INPUT: true; the input reads as it did. -/
def fnExactMayMoveSpec : ChangeSpec := { name := "fnExactMayMove", fn := fun _ => fun
  | [d1, d2] => { results := [.lit (.bool true)], args := [d1, d2] }
  | _ => none }
def fnExactMayMoveRow : OpenClaim := { program := "ytphinokacggnfaa", sum := "c6cc59a70ad026ff8a6326017b41ad3586dea096553998f0b2f5cf4abc551078", func := "loop.example/g01384/laws.FnExactMayMove", spec := "fnExactMayMove", apart := false }
def FnExactMayMoveSaid : Prop := fnExactMayMoveRow.holds Try.pinned (OpenSpec.ofChange fnExactMayMoveSpec)

/-- ITS FALSE NEIGHBOUR: 'it returns false'. Refute it at one input. -/
def fnExactMayMoveWrong : ChangeSpec := { name := "fnExactMayMove", fn := fun _ => fun
  | [d1, d2] => { results := [.lit (.bool false)], args := [d1, d2] }
  | _ => none }
def FnExactMayMoveWrongFalsely : Prop := fnExactMayMoveRow.holds Try.pinned (OpenSpec.ofChange fnExactMayMoveWrong)

/-- 'laws.FnExactNetMoves': WHATEVER THE INPUT: true; the input reads as it did. -/
def fnExactNetMovesSpec : ChangeSpec := { name := "fnExactNetMoves", fn := fun _ => fun
  | [d] => { results := [.lit (.bool true)], args := [d] }
  | _ => none }
def fnExactNetMovesRow : OpenClaim := { program := "ytphinokacggnfaa", sum := "c6cc59a70ad026ff8a6326017b41ad3586dea096553998f0b2f5cf4abc551078", func := "loop.example/g01384/laws.FnExactNetMoves", spec := "fnExactNetMoves", apart := false }
def FnExactNetMovesSaid : Prop := fnExactNetMovesRow.holds Try.pinned (OpenSpec.ofChange fnExactNetMovesSpec)

/-- ITS FALSE NEIGHBOUR: 'it returns false'. Refute it at one input. -/
def fnExactNetMovesWrong : ChangeSpec := { name := "fnExactNetMoves", fn := fun _ => fun
  | [d] => { results := [.lit (.bool false)], args := [d] }
  | _ => none }
def FnExactNetMovesWrongFalsely : Prop := fnExactNetMovesRow.holds Try.pinned (OpenSpec.ofChange fnExactNetMovesWrong)

/-- 'laws.FnExactLeastStart': WHATEVER THE INPUT: true; the input reads as it did. -/
def fnExactLeastStartSpec : ChangeSpec := { name := "fnExactLeastStart", fn := fun _ => fun
  | [d] => { results := [.lit (.bool true)], args := [d] }
  | _ => none }
def fnExactLeastStartRow : OpenClaim := { program := "ytphinokacggnfaa", sum := "c6cc59a70ad026ff8a6326017b41ad3586dea096553998f0b2f5cf4abc551078", func := "loop.example/g01384/laws.FnExactLeastStart", spec := "fnExactLeastStart", apart := false }
def FnExactLeastStartSaid : Prop := fnExactLeastStartRow.holds Try.pinned (OpenSpec.ofChange fnExactLeastStartSpec)

/-- ITS FALSE NEIGHBOUR: 'it returns false'. Refute it at one input. -/
def fnExactLeastStartWrong : ChangeSpec := { name := "fnExactLeastStart", fn := fun _ => fun
  | [d] => { results := [.lit (.bool false)], args := [d] }
  | _ => none }
def FnExactLeastStartWrongFalsely : Prop := fnExactLeastStartRow.holds Try.pinned (OpenSpec.ofChange fnExactLeastStartWrong)

/-- 'laws.FnExactUndoMove': WHATEVER THE INPUT: true; the input reads as it did. -/
def fnExactUndoMoveSpec : ChangeSpec := { name := "fnExactUndoMove", fn := fun _ => fun
  | [d1, d2] => { results := [.lit (.bool true)], args := [d1, d2] }
  | _ => none }
def fnExactUndoMoveRow : OpenClaim := { program := "ytphinokacggnfaa", sum := "c6cc59a70ad026ff8a6326017b41ad3586dea096553998f0b2f5cf4abc551078", func := "loop.example/g01384/laws.FnExactUndoMove", spec := "fnExactUndoMove", apart := false }
def FnExactUndoMoveSaid : Prop := fnExactUndoMoveRow.holds Try.pinned (OpenSpec.ofChange fnExactUndoMoveSpec)

/-- ITS FALSE NEIGHBOUR: 'it returns false'. Refute it at one input. -/
def fnExactUndoMoveWrong : ChangeSpec := { name := "fnExactUndoMove", fn := fun _ => fun
  | [d1, d2] => { results := [.lit (.bool false)], args := [d1, d2] }
  | _ => none }
def FnExactUndoMoveWrongFalsely : Prop := fnExactUndoMoveRow.holds Try.pinned (OpenSpec.ofChange fnExactUndoMoveWrong)

/-- 'laws.FnExactMakeMoves': WHATEVER THE INPUT: true; the input reads as it did. -/
def fnExactMakeMovesSpec : ChangeSpec := { name := "fnExactMakeMoves", fn := fun _ => fun
  | [d1, d2] => { results := [.lit (.bool true)], args := [d1, d2] }
  | _ => none }
def fnExactMakeMovesRow : OpenClaim := { program := "ytphinokacggnfaa", sum := "c6cc59a70ad026ff8a6326017b41ad3586dea096553998f0b2f5cf4abc551078", func := "loop.example/g01384/laws.FnExactMakeMoves", spec := "fnExactMakeMoves", unfollowed := true, recurses := true, apart := false }
def FnExactMakeMovesSaid : Prop := fnExactMakeMovesRow.holds Try.pinned (OpenSpec.ofChange fnExactMakeMovesSpec)

/-- ITS FALSE NEIGHBOUR: 'it returns false'. Refute it at one input. -/
def fnExactMakeMovesWrong : ChangeSpec := { name := "fnExactMakeMoves", fn := fun _ => fun
  | [d1, d2] => { results := [.lit (.bool false)], args := [d1, d2] }
  | _ => none }
def FnExactMakeMovesWrongFalsely : Prop := fnExactMakeMovesRow.holds Try.pinned (OpenSpec.ofChange fnExactMakeMovesWrong)

/-- 'laws.FnExactPlacesAt': WHATEVER THE INPUT: true; the input reads as it did. -/
def fnExactPlacesAtSpec : ChangeSpec := { name := "fnExactPlacesAt", fn := fun _ => fun
  | [d1, d2] => { results := [.lit (.bool true)], args := [d1, d2] }
  | _ => none }
def fnExactPlacesAtRow : OpenClaim := { program := "ytphinokacggnfaa", sum := "c6cc59a70ad026ff8a6326017b41ad3586dea096553998f0b2f5cf4abc551078", func := "loop.example/g01384/laws.FnExactPlacesAt", spec := "fnExactPlacesAt", unfollowed := true, recurses := true, apart := false }
def FnExactPlacesAtSaid : Prop := fnExactPlacesAtRow.holds Try.pinned (OpenSpec.ofChange fnExactPlacesAtSpec)

/-- ITS FALSE NEIGHBOUR: 'it returns false'. Refute it at one input. -/
def fnExactPlacesAtWrong : ChangeSpec := { name := "fnExactPlacesAt", fn := fun _ => fun
  | [d1, d2] => { results := [.lit (.bool false)], args := [d1, d2] }
  | _ => none }
def FnExactPlacesAtWrongFalsely : Prop := fnExactPlacesAtRow.holds Try.pinned (OpenSpec.ofChange fnExactPlacesAtWrong)

/-- 'laws.FnExactFirstWrong': WHATEVER THE INPUT: true; the input reads as it did. -/
def fnExactFirstWrongSpec : ChangeSpec := { name := "fnExactFirstWrong", fn := fun _ => fun
  | [d1, d2] => { results := [.lit (.bool true)], args := [d1, d2] }
  | _ => none }
def fnExactFirstWrongRow : OpenClaim := { program := "ytphinokacggnfaa", sum := "c6cc59a70ad026ff8a6326017b41ad3586dea096553998f0b2f5cf4abc551078", func := "loop.example/g01384/laws.FnExactFirstWrong", spec := "fnExactFirstWrong", unfollowed := true, recurses := true, apart := false }
def FnExactFirstWrongSaid : Prop := fnExactFirstWrongRow.holds Try.pinned (OpenSpec.ofChange fnExactFirstWrongSpec)

/-- ITS FALSE NEIGHBOUR: 'it returns false'. Refute it at one input. -/
def fnExactFirstWrongWrong : ChangeSpec := { name := "fnExactFirstWrong", fn := fun _ => fun
  | [d1, d2] => { results := [.lit (.bool false)], args := [d1, d2] }
  | _ => none }
def FnExactFirstWrongWrongFalsely : Prop := fnExactFirstWrongRow.holds Try.pinned (OpenSpec.ofChange fnExactFirstWrongWrong)

/-- 'laws.FnExactMergeMoves': WHATEVER THE INPUT: true; the input reads as it did. -/
def fnExactMergeMovesSpec : ChangeSpec := { name := "fnExactMergeMoves", fn := fun _ => fun
  | [d] => { results := [.lit (.bool true)], args := [d] }
  | _ => none }
def fnExactMergeMovesRow : OpenClaim := { program := "ytphinokacggnfaa", sum := "c6cc59a70ad026ff8a6326017b41ad3586dea096553998f0b2f5cf4abc551078", func := "loop.example/g01384/laws.FnExactMergeMoves", spec := "fnExactMergeMoves", apart := false }
def FnExactMergeMovesSaid : Prop := fnExactMergeMovesRow.holds Try.pinned (OpenSpec.ofChange fnExactMergeMovesSpec)

/-- ITS FALSE NEIGHBOUR: 'it returns false'. Refute it at one input. -/
def fnExactMergeMovesWrong : ChangeSpec := { name := "fnExactMergeMoves", fn := fun _ => fun
  | [d] => { results := [.lit (.bool false)], args := [d] }
  | _ => none }
def FnExactMergeMovesWrongFalsely : Prop := fnExactMergeMovesRow.holds Try.pinned (OpenSpec.ofChange fnExactMergeMovesWrong)

/- THE SECOND FORM. 'bulk': how many values and letters a reading holds, each counted each time it is reached (what is shared counts as often as it is met; a slice's spare places count too). A statement '..UptoSaid' is the law's where the arguments, and the package variables that the reading takes, are together of bulk at most 1048576: NARROWER than '..Said'. Prove '..Said' where nothing that the law and all that it calls make is longer than what came in: it says more and counts as full. Else prove '..UptoSaid'. A law counts once. -/
mutual
def uptoBulk {H : Type} : DataW H → Nat
  | .lit (.string bytes) => bytes.length + 1
  | .lit _ => 1
  | .nil => 1
  | .ptr d => uptoBulk d + 1
  | .slice elems spare => uptoBulkAll elems + uptoBulkAll spare + 1
  | .agg parts => uptoBulkAll parts + 1
  | .iface _ d => uptoBulk d + 1
  | .map entries => uptoBulkEntries entries + 1
  | .held _ => 1
def uptoBulkAll {H : Type} : List (DataW H) → Nat
  | [] => 0
  | d :: r => uptoBulk d + uptoBulkAll r
def uptoBulkEntries {H : Type} : List (Lit × DataW H) → Nat
  | [] => 0
  | x :: r => uptoBulkEntry x + uptoBulkEntries r
def uptoBulkEntry {H : Type} : Lit × DataW H → Nat
  | (.string bytes, d) => bytes.length + uptoBulk d + 1
  | (_, d) => uptoBulk d + 1
 end
def uptoSmall : (H : Type) → List (DataW H) → Bool := fun _ ds => decide (uptoBulkAll ds ≤ 1048576)
def OpenSpec.upto (s : _root_.Go.ChangeSpec) : _root_.Go.OpenSpec := { _root_.Go.OpenSpec.ofChange s with cond := some uptoSmall }

/-- 'laws.FnExactValidMoves', WHERE WHAT IT READS IS OF BULK AT MOST 1048576: true; the input reads as it did. -/
def fnExactValidMovesUptoRow : OpenClaim := { program := "ytphinokacggnfaa", sum := "c6cc59a70ad026ff8a6326017b41ad3586dea096553998f0b2f5cf4abc551078", func := "loop.example/g01384/laws.FnExactValidMoves", spec := "fnExactValidMoves", apart := false, narrowed := true }
def FnExactValidMovesUptoSaid : Prop := fnExactValidMovesUptoRow.holds Try.pinned (OpenSpec.upto fnExactValidMovesSpec)

/-- 'laws.FnExactMayMove', WHERE WHAT IT READS IS OF BULK AT MOST 1048576: true; the input reads as it did. -/
def fnExactMayMoveUptoRow : OpenClaim := { program := "ytphinokacggnfaa", sum := "c6cc59a70ad026ff8a6326017b41ad3586dea096553998f0b2f5cf4abc551078", func := "loop.example/g01384/laws.FnExactMayMove", spec := "fnExactMayMove", apart := false, narrowed := true }
def FnExactMayMoveUptoSaid : Prop := fnExactMayMoveUptoRow.holds Try.pinned (OpenSpec.upto fnExactMayMoveSpec)

/-- 'laws.FnExactNetMoves', WHERE WHAT IT READS IS OF BULK AT MOST 1048576: true; the input reads as it did. -/
def fnExactNetMovesUptoRow : OpenClaim := { program := "ytphinokacggnfaa", sum := "c6cc59a70ad026ff8a6326017b41ad3586dea096553998f0b2f5cf4abc551078", func := "loop.example/g01384/laws.FnExactNetMoves", spec := "fnExactNetMoves", apart := false, narrowed := true }
def FnExactNetMovesUptoSaid : Prop := fnExactNetMovesUptoRow.holds Try.pinned (OpenSpec.upto fnExactNetMovesSpec)

/-- 'laws.FnExactLeastStart', WHERE WHAT IT READS IS OF BULK AT MOST 1048576: true; the input reads as it did. -/
def fnExactLeastStartUptoRow : OpenClaim := { program := "ytphinokacggnfaa", sum := "c6cc59a70ad026ff8a6326017b41ad3586dea096553998f0b2f5cf4abc551078", func := "loop.example/g01384/laws.FnExactLeastStart", spec := "fnExactLeastStart", apart := false, narrowed := true }
def FnExactLeastStartUptoSaid : Prop := fnExactLeastStartUptoRow.holds Try.pinned (OpenSpec.upto fnExactLeastStartSpec)

/-- 'laws.FnExactUndoMove', WHERE WHAT IT READS IS OF BULK AT MOST 1048576: true; the input reads as it did. -/
def fnExactUndoMoveUptoRow : OpenClaim := { program := "ytphinokacggnfaa", sum := "c6cc59a70ad026ff8a6326017b41ad3586dea096553998f0b2f5cf4abc551078", func := "loop.example/g01384/laws.FnExactUndoMove", spec := "fnExactUndoMove", apart := false, narrowed := true }
def FnExactUndoMoveUptoSaid : Prop := fnExactUndoMoveUptoRow.holds Try.pinned (OpenSpec.upto fnExactUndoMoveSpec)

/-- 'laws.FnExactMakeMoves', WHERE WHAT IT READS IS OF BULK AT MOST 1048576: true; the input reads as it did. -/
def fnExactMakeMovesUptoRow : OpenClaim := { program := "ytphinokacggnfaa", sum := "c6cc59a70ad026ff8a6326017b41ad3586dea096553998f0b2f5cf4abc551078", func := "loop.example/g01384/laws.FnExactMakeMoves", spec := "fnExactMakeMoves", unfollowed := true, recurses := true, apart := false, narrowed := true }
def FnExactMakeMovesUptoSaid : Prop := fnExactMakeMovesUptoRow.holds Try.pinned (OpenSpec.upto fnExactMakeMovesSpec)

/-- 'laws.FnExactPlacesAt', WHERE WHAT IT READS IS OF BULK AT MOST 1048576: true; the input reads as it did. -/
def fnExactPlacesAtUptoRow : OpenClaim := { program := "ytphinokacggnfaa", sum := "c6cc59a70ad026ff8a6326017b41ad3586dea096553998f0b2f5cf4abc551078", func := "loop.example/g01384/laws.FnExactPlacesAt", spec := "fnExactPlacesAt", unfollowed := true, recurses := true, apart := false, narrowed := true }
def FnExactPlacesAtUptoSaid : Prop := fnExactPlacesAtUptoRow.holds Try.pinned (OpenSpec.upto fnExactPlacesAtSpec)

/-- 'laws.FnExactFirstWrong', WHERE WHAT IT READS IS OF BULK AT MOST 1048576: true; the input reads as it did. -/
def fnExactFirstWrongUptoRow : OpenClaim := { program := "ytphinokacggnfaa", sum := "c6cc59a70ad026ff8a6326017b41ad3586dea096553998f0b2f5cf4abc551078", func := "loop.example/g01384/laws.FnExactFirstWrong", spec := "fnExactFirstWrong", unfollowed := true, recurses := true, apart := false, narrowed := true }
def FnExactFirstWrongUptoSaid : Prop := fnExactFirstWrongUptoRow.holds Try.pinned (OpenSpec.upto fnExactFirstWrongSpec)

/-- 'laws.FnExactMergeMoves', WHERE WHAT IT READS IS OF BULK AT MOST 1048576: true; the input reads as it did. -/
def fnExactMergeMovesUptoRow : OpenClaim := { program := "ytphinokacggnfaa", sum := "c6cc59a70ad026ff8a6326017b41ad3586dea096553998f0b2f5cf4abc551078", func := "loop.example/g01384/laws.FnExactMergeMoves", spec := "fnExactMergeMoves", apart := false, narrowed := true }
def FnExactMergeMovesUptoSaid : Prop := fnExactMergeMovesUptoRow.holds Try.pinned (OpenSpec.upto fnExactMergeMovesSpec)

end Rows
end Go.Proofs.Ytphinokacggnfaa
