/-
  No statement is proved here: places of wool as values and in boxes, and what the law does with them; no condition.
-/
import Derived.Test.YtphinokacggnfaaRec
namespace Go.Proofs.Ytphinokacggnfaa
open Go.ChangeShapes Go.WideShapes Go.ChangeAt Go.RowKit

/-- Places as a value. -/
abbrev pval (f : Nat → Int) : Value := .agg #[.int .i32 (f 0), .int .i32 (f 1), .int .i32 (f 2), .int .i32 (f 3), .int .i32 (f 4)]
/-- Places in a block. -/
def PlAt (w : World) (B : Nat) (f : Nat → Int) : Prop := ∀ j, j < 5 → w.cell? ⟨B, j, none⟩ = some (.int .i32 (f j))
theorem PlAt.below {w w' : World} {B : Nat} {f : Nat → Int} (h : PlAt w B f) (hB : Below w.heap.size w w') : PlAt w' B f := fun j hj =>
  (hB.cell (p := ⟨B, j, none⟩) (World.block_lt_of_cell? w _ (h j hj))).trans (h j hj)
theorem PlAt.drew {w : World} {B : Nat} {f : Nat → Int} (h : PlAt w B f) : PlAt w.drew B f := h
theorem plat_made (w : World) (t : TypeId) (f : Nat → Int) : PlAt (w.alloc (.cells #[.int .i32 (f 0), .int .i32 (f 1), .int .i32 (f 2), .int .i32 (f 3), .int .i32 (f 4)] t)) w.heap.size f := fun j hj => by
  match j, hj with
  | 0, _ => simp [go_sem]
  | 1, _ => simp [go_sem]
  | 2, _ => simp [go_sem]
  | 3, _ => simp [go_sem]
  | 4, _ => simp [go_sem]
def putP (f : Nat → Int) (a : Nat) (z : Int) : Nat → Int := fun j => if j = a then z else f j
theorem plat_put {w : World} {B : Nat} {f : Nat → Int} (h : PlAt w B f) (a : Nat) (ha : a < 5) (z : Int) : PlAt (w.setCell ⟨B, a, none⟩ (.int .i32 z)) B (putP f a z) := fun j hj => by
  unfold putP
  by_cases e : j = a
  · subst e
    rw [if_pos rfl]
    exact World.cell?_setCell_same _ _ _ (h j hj)
  · rw [if_neg e, World.cell?_setCell_other _ _ _ _ (by intro e2; exact e (by simpa using (congrArg Addr.off e2).symm))]
    exact h j hj

set_option maxHeartbeats 2000000 in
theorem eqPlaces_same (f : Nat → Int) (w : World) : Calls Try.prog 21 #[pval f, pval f] w fun e w' => e = .returned (.bool true) ∧ Below w.heap.size w w' := by
  have hne0 : (f 0 != f 0) = false := by simp
  have hne1 : (f 1 != f 1) = false := by simp
  have hne2 : (f 2 != f 2) = false := by simp
  have hne3 : (f 3 != f 3) = false := by simp
  have hne4 : (f 4 != f 4) = false := by simp
  unfold pval
  generalize f 0 = x0 at *
  generalize f 1 = x1 at *
  generalize f 2 = x2 at *
  generalize f 3 = x3 at *
  generalize f 4 = x4 at *
  go_enter Try.func21, Try.ntmps21
  go_wp2
  refine wp_loop_rounds 6 ?_
  iterate 5 (rw [rounds_succ]; go_wp2; go_quiet (fail); go_wp2)
  rw [rounds_succ]
  go_wp2
  go_ret
  refine ⟨rfl, ?_⟩
  repeat refine below_drewN ?_ _
  go_grown
end Go.Proofs.Ytphinokacggnfaa
