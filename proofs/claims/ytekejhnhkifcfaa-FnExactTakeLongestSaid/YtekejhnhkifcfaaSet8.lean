/-
  No statement is proved here: eight cells stored one behind the other read as stored; no condition.
-/
import Derived.Test.YtekejhnhkifcfaaHeapX
namespace Go.Proofs.Ytekejhnhkifcfaa
open Go.RowKit

/-- Eight cells of a block, stored one behind the other. -/
def set8 (W : World) (b : Nat) (v0 v1 v2 v3 v4 v5 v6 v7 : Value) : World := ((((((((W.setCell ⟨b, 0, none⟩ v0).setCell ⟨b, 1, none⟩ v1).setCell ⟨b, 2, none⟩ v2).setCell ⟨b, 3, none⟩ v3).setCell ⟨b, 4, none⟩ v4).setCell ⟨b, 5, none⟩ v5).setCell ⟨b, 6, none⟩ v6).setCell ⟨b, 7, none⟩ v7)
theorem set8_below {B : Nat} (W : World) (b : Nat) (v0 v1 v2 v3 v4 v5 v6 v7 : Value) (hb : B ≤ b) : Below B W (set8 W b v0 v1 v2 v3 v4 v5 v6 v7) := (((((((((Below.refl B W).setCell (p := ⟨b, 0, none⟩) hb v0).setCell (p := ⟨b, 1, none⟩) hb v1).setCell (p := ⟨b, 2, none⟩) hb v2).setCell (p := ⟨b, 3, none⟩) hb v3).setCell (p := ⟨b, 4, none⟩) hb v4).setCell (p := ⟨b, 5, none⟩) hb v5).setCell (p := ⟨b, 6, none⟩) hb v6).setCell (p := ⟨b, 7, none⟩) hb v7)
theorem set8_cells (W : World) (b : Nat) (v0 v1 v2 v3 v4 v5 v6 v7 : Value) (h : ∀ i : Nat, i < 8 → (W.cell? ⟨b, i, none⟩).isSome = true) : (set8 W b v0 v1 v2 v3 v4 v5 v6 v7).cell? ⟨b, 0, none⟩ = some v0 ∧ (set8 W b v0 v1 v2 v3 v4 v5 v6 v7).cell? ⟨b, 1, none⟩ = some v1 ∧ (set8 W b v0 v1 v2 v3 v4 v5 v6 v7).cell? ⟨b, 2, none⟩ = some v2 ∧ (set8 W b v0 v1 v2 v3 v4 v5 v6 v7).cell? ⟨b, 3, none⟩ = some v3 ∧ (set8 W b v0 v1 v2 v3 v4 v5 v6 v7).cell? ⟨b, 4, none⟩ = some v4 ∧ (set8 W b v0 v1 v2 v3 v4 v5 v6 v7).cell? ⟨b, 5, none⟩ = some v5 ∧ (set8 W b v0 v1 v2 v3 v4 v5 v6 v7).cell? ⟨b, 6, none⟩ = some v6 ∧ (set8 W b v0 v1 v2 v3 v4 v5 v6 v7).cell? ⟨b, 7, none⟩ = some v7 := by
  have h0 := h 0 (by omega)
  have h1 := h 1 (by omega)
  have h2 := h 2 (by omega)
  have h3 := h 3 (by omega)
  have h4 := h 4 (by omega)
  have h5 := h 5 (by omega)
  have h6 := h 6 (by omega)
  have h7 := h 7 (by omega)
  unfold set8
  refine ⟨?_, ?_, ?_, ?_, ?_, ?_, ?_, ?_⟩ <;> simp [go_sem, h0, h1, h2, h3, h4, h5, h6, h7]

end Go.Proofs.Ytekejhnhkifcfaa
