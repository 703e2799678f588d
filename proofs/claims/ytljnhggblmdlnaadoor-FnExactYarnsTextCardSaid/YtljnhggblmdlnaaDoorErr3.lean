/-
  No statement is proved here: three errors of chapter 3, and where they lie; no condition.
-/
import Derived.Test.YtljnhggblmdlnaaDoorBase
import Derived.WalkKit
namespace Go.Proofs.YtljnhggblmdlnaaDoor
open Go.RowKit

abbrev errAt (a : Addr) : Value := .iface 117 (.pointer (some a))
/-- Error k lies at p k. -/
def Sent (w : World) (p : Nat → Addr) : Prop :=
  (w.cell? ⟨2, 0, none⟩ = some (errAt (p 0)) ∧ w.cell? ⟨0, 0, none⟩ = some (errAt (p 1)) ∧
   w.cell? ⟨1, 0, none⟩ = some (errAt (p 2)) ∧ True) ∧ True
theorem Sent.below {w w' : World} {p : Nat → Addr} (h : Sent w p) (hB : Below w.heap.size w w') : Sent w' p := by
  have k : ∀ {b o : Nat} {v : Value}, w.cell? ⟨b, o, none⟩ = some v → w'.cell? ⟨b, o, none⟩ = some v := fun hc => (hB.cell (p := ⟨_, _, none⟩) (World.block_lt_of_cell? w _ hc)).trans hc
  exact ⟨⟨k h.1.1, k h.1.2.1, k h.1.2.2.1, trivial⟩, trivial⟩
theorem neqNil_err (a : Addr) (w : World) : (binOp .neq 46 (errAt a) .nilIface).run Tryd.prog w = .ok (.bool true) w := by kernel_rfl
theorem neqNil_nil (w : World) : (binOp .neq 46 .nilIface .nilIface).run Tryd.prog w = .ok (.bool false) w := by kernel_rfl
end Go.Proofs.YtljnhggblmdlnaaDoor
