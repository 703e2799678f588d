/-
  No statement is proved here: a box of a cloth that a call makes first, and what lies in it in later worlds; no condition.
-/
import Derived.Test.YtlmdojofjdfeeaaDoorClS
namespace Go.Proofs.YtlmdojofjdfeeaaDoor
open Go.ChangeShapes Go.WideShapes Go.ChangeAt Go.RowKit

/-- The facts on the box, under one name. -/
def BoxC (w W : World) (x y d f h : Int) : Prop := W.cell? ⟨w.heap.size, 0, none⟩ = some (.int .i16 x) ∧ W.cell? ⟨w.heap.size, 1, none⟩ = some (.int .i16 y) ∧ W.cell? ⟨w.heap.size, 2, none⟩ = some (.int .i8 d) ∧ W.cell? ⟨w.heap.size, 3, none⟩ = some (.int .i8 f) ∧ W.cell? ⟨w.heap.size, 4, none⟩ = some (.int .i8 h) ∧ Below w.heap.size w W ∧ w.heap.size < W.heap.size
theorem boxc_below {w W W' : World} {x y d f h : Int} (H : BoxC w W x y d f h) (hB : Below W.heap.size W W') : BoxC w W' x y d f h := by
  obtain ⟨h0, h1, h2, h3, h4, hb, hz⟩ := H
  have k : ∀ {b o : Nat} {v : Value}, W.cell? ⟨b, o, none⟩ = some v → W'.cell? ⟨b, o, none⟩ = some v := fun hc => (hB.cell (p := ⟨_, _, none⟩) (World.block_lt_of_cell? W _ hc)).trans hc
  exact ⟨k h0, k h1, k h2, k h3, k h4, hb.trans (hB.mono hb.size), Nat.lt_of_lt_of_le hz hB.size⟩
theorem boxc_made (w : World) (t : TypeId) (x y d f h : Int) : BoxC w (w.alloc (.cells #[.int .i16 x, .int .i16 y, .int .i8 d, .int .i8 f, .int .i8 h] t)) x y d f h :=
  ⟨by simp [go_sem], by simp [go_sem], by simp [go_sem], by simp [go_sem], by simp [go_sem], (Below.refl _ _).alloc (Nat.le_refl _) _, by simp only [World.size_alloc]; omega⟩
theorem BoxC.under {w W : World} {x y d f h : Int} (H : BoxC w W x y d f h) : Below w.heap.size w W := H.2.2.2.2.2.1
theorem BoxC.room {w W : World} {x y d f h : Int} (H : BoxC w W x y d f h) : w.heap.size < W.heap.size := H.2.2.2.2.2.2
theorem boxc_grown {w W W' : World} {x y d f h : Int} {row : Option Nat} (H : BoxC w W x y d f h) (hg : W.grownBy W' row) (hne : ∀ k, row = some k → w.heap.size < k) : BoxC w W' x y d f h := by
  obtain ⟨h0, h1, h2, h3, h4, hb, hz⟩ := H
  have hk : W'.heap[w.heap.size]? = W.heap[w.heap.size]? := hg.block _ hz fun e => by
    have := hne _ e.symm
    omega
  have k : ∀ {o : Nat} {v : Value}, W.cell? ⟨w.heap.size, o, none⟩ = some v → W'.cell? ⟨w.heap.size, o, none⟩ = some v := fun hc => (World.cell?_of_block (w := W) (a := ⟨w.heap.size, _, none⟩) hk).trans hc
  exact ⟨k h0, k h1, k h2, k h3, k h4, hb.grown hg hb.size (fun j hj => Nat.le_of_lt (hne j hj)), Nat.lt_of_lt_of_le hz hg.size⟩
end Go.Proofs.YtlmdojofjdfeeaaDoor
