/-
  No statement is proved here: a box of meets that a call makes first, and what lies in it in later worlds; no condition.
-/
import Derived.Test.YtaanjjmochfhgaaDoorMeets
namespace Go.Proofs.YtaanjjmochfhgaaDoor
open Go.ChangeShapes Go.WideShapes Go.ChangeAt Go.RowKit

/-- The facts on the box of meets, under one name. -/
def Box1 (w W : World) (m : Nat → Int) : Prop := W.cell? ⟨w.heap.size, 0, none⟩ = some (.int .u8 (m 0)) ∧ W.cell? ⟨w.heap.size, 1, none⟩ = some (.int .u8 (m 1)) ∧ W.cell? ⟨w.heap.size, 2, none⟩ = some (.int .u8 (m 2)) ∧ W.cell? ⟨w.heap.size, 3, none⟩ = some (.int .u8 (m 3)) ∧ W.cell? ⟨w.heap.size, 4, none⟩ = some (.int .u8 (m 4)) ∧ W.cell? ⟨w.heap.size, 5, none⟩ = some (.int .u8 (m 5)) ∧ Below w.heap.size w W ∧ w.heap.size < W.heap.size
theorem box1_id {w W : World} {m : Nat → Int} (h : W.cell? ⟨w.heap.size, 0, none⟩ = some (.int .u8 (m 0)) ∧ W.cell? ⟨w.heap.size, 1, none⟩ = some (.int .u8 (m 1)) ∧ W.cell? ⟨w.heap.size, 2, none⟩ = some (.int .u8 (m 2)) ∧ W.cell? ⟨w.heap.size, 3, none⟩ = some (.int .u8 (m 3)) ∧ W.cell? ⟨w.heap.size, 4, none⟩ = some (.int .u8 (m 4)) ∧ W.cell? ⟨w.heap.size, 5, none⟩ = some (.int .u8 (m 5)) ∧ Below w.heap.size w W ∧ w.heap.size < W.heap.size) : Box1 w W m := h
theorem box1_raw {w W : World} {m : Nat → Int} (h : Box1 w W m) : W.cell? ⟨w.heap.size, 0, none⟩ = some (.int .u8 (m 0)) ∧ W.cell? ⟨w.heap.size, 1, none⟩ = some (.int .u8 (m 1)) ∧ W.cell? ⟨w.heap.size, 2, none⟩ = some (.int .u8 (m 2)) ∧ W.cell? ⟨w.heap.size, 3, none⟩ = some (.int .u8 (m 3)) ∧ W.cell? ⟨w.heap.size, 4, none⟩ = some (.int .u8 (m 4)) ∧ W.cell? ⟨w.heap.size, 5, none⟩ = some (.int .u8 (m 5)) ∧ Below w.heap.size w W ∧ w.heap.size < W.heap.size := h
theorem box1_drew {w W : World} {m : Nat → Int} (h : Box1 w W m) : Box1 w W.drew m := by
  obtain ⟨h0, h1, h2, h3, h4, h5, hb, hz⟩ := h
  exact ⟨h0, h1, h2, h3, h4, h5, hb.drew, hz⟩
theorem box1_below {w W W' : World} {m : Nat → Int} (h : Box1 w W m) (hB : Below W.heap.size W W') : Box1 w W' m := by
  obtain ⟨h0, h1, h2, h3, h4, h5, hb, hz⟩ := h
  have k : ∀ {b o : Nat} {v : Value}, W.cell? ⟨b, o, none⟩ = some v → W'.cell? ⟨b, o, none⟩ = some v := fun hc => (hB.cell (p := ⟨_, _, none⟩) (World.block_lt_of_cell? W _ hc)).trans hc
  exact ⟨k h0, k h1, k h2, k h3, k h4, k h5, hb.trans (hB.mono hb.size), Nat.lt_of_lt_of_le hz hB.size⟩
theorem box1_next {w W W' : World} {m : Nat → Int} (h : W.cell? ⟨w.heap.size, 0, none⟩ = some (.int .u8 (m 0)) ∧ W.cell? ⟨w.heap.size, 1, none⟩ = some (.int .u8 (m 1)) ∧ W.cell? ⟨w.heap.size, 2, none⟩ = some (.int .u8 (m 2)) ∧ W.cell? ⟨w.heap.size, 3, none⟩ = some (.int .u8 (m 3)) ∧ W.cell? ⟨w.heap.size, 4, none⟩ = some (.int .u8 (m 4)) ∧ W.cell? ⟨w.heap.size, 5, none⟩ = some (.int .u8 (m 5)) ∧ Below w.heap.size w W ∧ w.heap.size < W.heap.size) (hB : Below W.heap.size W W') :
    W'.cell? ⟨w.heap.size, 0, none⟩ = some (.int .u8 (m 0)) ∧ W'.cell? ⟨w.heap.size, 1, none⟩ = some (.int .u8 (m 1)) ∧ W'.cell? ⟨w.heap.size, 2, none⟩ = some (.int .u8 (m 2)) ∧ W'.cell? ⟨w.heap.size, 3, none⟩ = some (.int .u8 (m 3)) ∧ W'.cell? ⟨w.heap.size, 4, none⟩ = some (.int .u8 (m 4)) ∧ W'.cell? ⟨w.heap.size, 5, none⟩ = some (.int .u8 (m 5)) ∧ Below w.heap.size w W' ∧ w.heap.size < W'.heap.size := box1_raw (box1_below (box1_id h) hB)
theorem box1_made (w : World) (t : TypeId) (m : Nat → Int) : Box1 w (w.alloc (.cells #[.int .u8 (m 0), .int .u8 (m 1), .int .u8 (m 2), .int .u8 (m 3), .int .u8 (m 4), .int .u8 (m 5)] t)) m := by
  have M0 := mAt_made w t m
  exact ⟨M0 0 (by omega), M0 1 (by omega), M0 2 (by omega), M0 3 (by omega), M0 4 (by omega), M0 5 (by omega), (Below.refl _ _).alloc (Nat.le_refl _) _, by simp only [World.size_alloc]; omega⟩
theorem Box1.under {w W : World} {m : Nat → Int} (h : Box1 w W m) : Below w.heap.size w W := h.2.2.2.2.2.2.1
theorem Box1.room {w W : World} {m : Nat → Int} (h : Box1 w W m) : w.heap.size < W.heap.size := h.2.2.2.2.2.2.2
theorem box1_grown {w W W' : World} {m : Nat → Int} {row : Option Nat} (h : Box1 w W m) (hg : W.grownBy W' row) (hne : ∀ k, row = some k → w.heap.size < k) : Box1 w W' m := by
  obtain ⟨h0, h1, h2, h3, h4, h5, hb, hz⟩ := h
  have hk : W'.heap[w.heap.size]? = W.heap[w.heap.size]? := hg.block _ hz fun e => by
    have := hne _ e.symm
    omega
  have k : ∀ {o : Nat} {v : Value}, W.cell? ⟨w.heap.size, o, none⟩ = some v → W'.cell? ⟨w.heap.size, o, none⟩ = some v := fun hc => (World.cell?_of_block (w := W) (a := ⟨w.heap.size, _, none⟩) hk).trans hc
  exact ⟨k h0, k h1, k h2, k h3, k h4, k h5, hb.grown hg hb.size (fun j hj => Nat.le_of_lt (hne j hj)), Nat.lt_of_lt_of_le hz hg.size⟩
end Go.Proofs.YtaanjjmochfhgaaDoor
