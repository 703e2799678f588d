/-
  No statement is proved here: a block of places that a call has made, through stores; no condition.
-/
import Derived.Test.YtphinokacggnfaaPlaceL
import Derived.ChangeOld
namespace Go.Proofs.Ytphinokacggnfaa
open Go.ChangeShapes Go.WideShapes Go.ChangeAt Go.RowKit

/-- A block of places that can be written. -/
def Box5 (W : World) (B : Nat) (f : Nat → Int) : Prop := PlAt W B f ∧ ∀ o : Nat, W.frozen? ⟨B, o, none⟩ = false
theorem Box5.lt {W : World} {B : Nat} {f : Nat → Int} (h : Box5 W B f) : B < W.heap.size := World.block_lt_of_cell? W _ (h.1 0 (by omega))
theorem Box5.below {W W' : World} {B : Nat} {f : Nat → Int} (h : Box5 W B f) (hB : Below W.heap.size W W') : Box5 W' B f :=
  ⟨h.1.below hB, fun o => (hB.frozen (p := ⟨B, o, none⟩) h.lt).trans (h.2 o)⟩
theorem Box5.drew {W : World} {B : Nat} {f : Nat → Int} (h : Box5 W B f) : Box5 W.drew B f := h
theorem Box5.made (w : World) (t : TypeId) (f : Nat → Int) : Box5 (w.alloc (.cells #[.int .i32 (f 0), .int .i32 (f 1), .int .i32 (f 2), .int .i32 (f 3), .int .i32 (f 4)] t)) w.heap.size f := ⟨plat_made w t f, fun o => by simp [go_sem]⟩
theorem Box5.put {W : World} {B : Nat} {f : Nat → Int} (h : Box5 W B f) (a : Nat) (ha : a < 5) (z : Int) : Box5 (W.setCell ⟨B, a, none⟩ (.int .i32 z)) B (putP f a z) :=
  ⟨plat_put h.1 a ha z, fun o => by simpa [go_sem] using h.2 o⟩
theorem Box5.far {W : World} {B : Nat} {f : Nat → Int} (h : Box5 W B f) {C : Nat} (hne : C ≠ B) (a : Nat) (v : Value) : Box5 (W.setCell ⟨C, a, none⟩ v) B f :=
  ⟨fun j hj => (World.cell?_setCell_other _ _ _ _ (by intro e; exact hne (congrArg Addr.block e))).trans (h.1 j hj), fun o => by simpa [go_sem] using h.2 o⟩
theorem Box5.far5 {W : World} {B : Nat} {f : Nat → Int} (h : Box5 W B f) {C : Nat} (hne : C ≠ B) (g : Nat → Int) : Box5 (((((W.setCell ⟨C, 0, none⟩ (.int .i32 (g 0))).setCell ⟨C, 1, none⟩ (.int .i32 (g 1))).setCell ⟨C, 2, none⟩ (.int .i32 (g 2))).setCell ⟨C, 3, none⟩ (.int .i32 (g 3))).setCell ⟨C, 4, none⟩ (.int .i32 (g 4))) B f :=
  ((((h.far hne 0 _).far hne 1 _).far hne 2 _).far hne 3 _).far hne 4 _
theorem Box5.eq {W : World} {B : Nat} {f g : Nat → Int} (h : Box5 W B f) (e : ∀ j, j < 5 → f j = g j) : Box5 W B g := ⟨fun j hj => by rw [← e j hj]; exact h.1 j hj, h.2⟩
theorem Box5.put5 {W : World} {B : Nat} {f : Nat → Int} (h : Box5 W B f) (g : Nat → Int) : Box5 (((((W.setCell ⟨B, 0, none⟩ (.int .i32 (g 0))).setCell ⟨B, 1, none⟩ (.int .i32 (g 1))).setCell ⟨B, 2, none⟩ (.int .i32 (g 2))).setCell ⟨B, 3, none⟩ (.int .i32 (g 3))).setCell ⟨B, 4, none⟩ (.int .i32 (g 4))) B g := by
  have h5 := ((((h.put 0 (by omega) (g 0)).put 1 (by omega) (g 1)).put 2 (by omega) (g 2)).put 3 (by omega) (g 3)).put 4 (by omega) (g 4)
  refine h5.eq fun j hj => ?_
  have : j = 0 ∨ j = 1 ∨ j = 2 ∨ j = 3 ∨ j = 4 := by omega
  rcases this with rfl | rfl | rfl | rfl | rfl <;> simp [putP]
theorem below_set5 {w W : World} {B n : Nat} (h : Below n w W) (hB : n ≤ B) (g : Nat → Int) : Below n w (((((W.setCell ⟨B, 0, none⟩ (.int .i32 (g 0))).setCell ⟨B, 1, none⟩ (.int .i32 (g 1))).setCell ⟨B, 2, none⟩ (.int .i32 (g 2))).setCell ⟨B, 3, none⟩ (.int .i32 (g 3))).setCell ⟨B, 4, none⟩ (.int .i32 (g 4))) :=
  ((((h.setCell (p := ⟨B, 0, none⟩) hB _).setCell (p := ⟨B, 1, none⟩) hB _).setCell (p := ⟨B, 2, none⟩) hB _).setCell (p := ⟨B, 3, none⟩) hB _).setCell (p := ⟨B, 4, none⟩) hB _
end Go.Proofs.Ytphinokacggnfaa
