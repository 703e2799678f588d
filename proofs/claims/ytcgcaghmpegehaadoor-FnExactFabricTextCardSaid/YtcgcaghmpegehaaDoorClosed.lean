/-
  No statement is proved here: closed facts on the whole program that every row asks for, proved once; no condition.
-/
import Derived.Test.YtcgcaghmpegehaaDoorBase
namespace Go.Proofs.YtcgcaghmpegehaaDoor
open Go.ChangeShapes Go.WideShapes Go.ChangeAt Go.RowKit

theorem and_mk {a b : Bool} (h : a = true) (k : b = true) : (a && b) = true := by rw [h, k]; rfl
set_option maxRecDepth 100000 in
theorem may_enter : Tryd.pinned.checked.prog.mayEnter = true := by kernel_rfl
set_option maxRecDepth 100000 in
theorem lifts_end : (Rows.fnExactFabricTextRow.lifted == Tryd.pinned.checked.prog.liftsFinal) = true := by kernel_rfl
set_option maxRecDepth 100000 in
theorem make_end : (Tryd.pinned.checked.prog.make == some Rows.fnExactFabricTextRow.make) = true := by kernel_rfl
end Go.Proofs.YtcgcaghmpegehaaDoor
