/-
  No statement is proved here: a block of twenty-five int64s that a call has made, through stores; no condition.
-/
import Derived.Test.YtphinokacggnfaaMgM
namespace Go.Proofs.Ytphinokacggnfaa
open Go.ChangeShapes Go.WideShapes Go.ChangeAt Go.RowKit

/-- A block of twenty-five numbers that can be written. -/
def Box25 (W : World) (B : Nat) (f : Nat → Int) : Prop := (∀ j, j < 25 → W.cell? ⟨B, j, none⟩ = some (.int .i64 (f j))) ∧ ∀ o : Nat, W.frozen? ⟨B, o, none⟩ = false
theorem Box25.lt {W : World} {B : Nat} {f : Nat → Int} (h : Box25 W B f) : B < W.heap.size := World.block_lt_of_cell? W _ (h.1 0 (by omega))
theorem Box25.below {W W' : World} {B : Nat} {f : Nat → Int} (h : Box25 W B f) (hB : Below W.heap.size W W') : Box25 W' B f :=
  ⟨fun j hj => (hB.cell (p := ⟨B, j, none⟩) h.lt).trans (h.1 j hj), fun o => (hB.frozen (p := ⟨B, o, none⟩) h.lt).trans (h.2 o)⟩
theorem Box25.drew {W : World} {B : Nat} {f : Nat → Int} (h : Box25 W B f) : Box25 W.drew B f := h
theorem Box25.made (w : World) (t : TypeId) : Box25 (w.alloc (.cells #[.int .i64 0, .int .i64 0, .int .i64 0, .int .i64 0, .int .i64 0, .int .i64 0, .int .i64 0, .int .i64 0, .int .i64 0, .int .i64 0, .int .i64 0, .int .i64 0, .int .i64 0, .int .i64 0, .int .i64 0, .int .i64 0, .int .i64 0, .int .i64 0, .int .i64 0, .int .i64 0, .int .i64 0, .int .i64 0, .int .i64 0, .int .i64 0, .int .i64 0] t)) w.heap.size (fun _ => 0) := by
  refine ⟨fun j hj => ?_, fun o => by simp [go_sem]⟩
  have h25 : j = 0 ∨ j = 1 ∨ j = 2 ∨ j = 3 ∨ j = 4 ∨ j = 5 ∨ j = 6 ∨ j = 7 ∨ j = 8 ∨ j = 9 ∨ j = 10 ∨ j = 11 ∨ j = 12 ∨ j = 13 ∨ j = 14 ∨ j = 15 ∨ j = 16 ∨ j = 17 ∨ j = 18 ∨ j = 19 ∨ j = 20 ∨ j = 21 ∨ j = 22 ∨ j = 23 ∨ j = 24 := by omega
  rcases h25 with rfl | rfl | rfl | rfl | rfl | rfl | rfl | rfl | rfl | rfl | rfl | rfl | rfl | rfl | rfl | rfl | rfl | rfl | rfl | rfl | rfl | rfl | rfl | rfl | rfl <;> simp [go_sem]
theorem Box25.put {W : World} {B : Nat} {f g : Nat → Int} (h : Box25 W B f) (a : Nat) (ha : a < 25) (z : Int) (hg : ∀ j, j < 25 → g j = if j = a then z else f j) : Box25 (W.setCell ⟨B, a, none⟩ (.int .i64 z)) B g := by
  refine ⟨fun j hj => ?_, fun o => by simpa [go_sem] using h.2 o⟩
  rw [hg j hj]
  by_cases e : j = a
  · subst e
    rw [if_pos rfl]
    exact World.cell?_setCell_same _ _ _ (h.1 j hj)
  · rw [if_neg e, World.cell?_setCell_other _ _ _ _ (by intro e2; exact e (by simpa using (congrArg Addr.off e2).symm))]
    exact h.1 j hj
def sumAt (ms : List Mv) (k : Nat) : Nat → Int := fun j => sumFT ms (j / 5) (j % 5) k
theorem sumAt_zero (ms : List Mv) : sumAt ms 0 = fun _ => 0 := rfl
theorem sumAt_step {ms : List Mv} {k p q : Nat} {g : Int} (hq : q < 5) (h : atMv ms k = ((p : Int), (q : Int), g)) : ∀ j, j < 25 → sumAt ms (k + 1) j = if j = p * 5 + q then sumAt ms k (p * 5 + q) + g else sumAt ms k j := fun j _ => by
  unfold sumAt
  by_cases e : j = p * 5 + q
  · subst e
    rw [if_pos rfl, show (p * 5 + q) / 5 = p by omega, show (p * 5 + q) % 5 = q by omega]
    exact sumFT_hit h
  · rw [if_neg e]
    exact sumFT_miss h (by omega)
def rowV (ms : List Mv) (a : Nat) : Array Value := #[.int .i64 (tot ms (5 * a)), .int .i64 (tot ms (5 * a + 1)), .int .i64 (tot ms (5 * a + 2)), .int .i64 (tot ms (5 * a + 3)), .int .i64 (tot ms (5 * a + 4))]
set_option maxRecDepth 100000 in
theorem index_row0 (ms : List Mv) (w : World) : (Instr.index 66 (.agg #[.int .i64 (tot ms 0), .int .i64 (tot ms 1), .int .i64 (tot ms 2), .int .i64 (tot ms 3), .int .i64 (tot ms 4), .int .i64 (tot ms 5), .int .i64 (tot ms 6), .int .i64 (tot ms 7), .int .i64 (tot ms 8), .int .i64 (tot ms 9), .int .i64 (tot ms 10), .int .i64 (tot ms 11), .int .i64 (tot ms 12), .int .i64 (tot ms 13), .int .i64 (tot ms 14), .int .i64 (tot ms 15), .int .i64 (tot ms 16), .int .i64 (tot ms 17), .int .i64 (tot ms 18), .int .i64 (tot ms 19), .int .i64 (tot ms 20), .int .i64 (tot ms 21), .int .i64 (tot ms 22), .int .i64 (tot ms 23), .int .i64 (tot ms 24)]) (.int .i64 0)).run Try.prog w = .ok (.agg #[.int .i64 (tot ms 0), .int .i64 (tot ms 1), .int .i64 (tot ms 2), .int .i64 (tot ms 3), .int .i64 (tot ms 4)]) w := by kernel_rfl
set_option maxRecDepth 100000 in
theorem index_cell0 (x0 x1 x2 x3 x4 : Int) (w : World) : (Instr.index 58 (.agg #[.int .i64 x0, .int .i64 x1, .int .i64 x2, .int .i64 x3, .int .i64 x4]) (.int .i64 0)).run Try.prog w = .ok (.int .i64 x0) w := by kernel_rfl
set_option maxRecDepth 100000 in
theorem index_row1 (ms : List Mv) (w : World) : (Instr.index 66 (.agg #[.int .i64 (tot ms 0), .int .i64 (tot ms 1), .int .i64 (tot ms 2), .int .i64 (tot ms 3), .int .i64 (tot ms 4), .int .i64 (tot ms 5), .int .i64 (tot ms 6), .int .i64 (tot ms 7), .int .i64 (tot ms 8), .int .i64 (tot ms 9), .int .i64 (tot ms 10), .int .i64 (tot ms 11), .int .i64 (tot ms 12), .int .i64 (tot ms 13), .int .i64 (tot ms 14), .int .i64 (tot ms 15), .int .i64 (tot ms 16), .int .i64 (tot ms 17), .int .i64 (tot ms 18), .int .i64 (tot ms 19), .int .i64 (tot ms 20), .int .i64 (tot ms 21), .int .i64 (tot ms 22), .int .i64 (tot ms 23), .int .i64 (tot ms 24)]) (.int .i64 1)).run Try.prog w = .ok (.agg #[.int .i64 (tot ms 5), .int .i64 (tot ms 6), .int .i64 (tot ms 7), .int .i64 (tot ms 8), .int .i64 (tot ms 9)]) w := by kernel_rfl
set_option maxRecDepth 100000 in
theorem index_cell1 (x0 x1 x2 x3 x4 : Int) (w : World) : (Instr.index 58 (.agg #[.int .i64 x0, .int .i64 x1, .int .i64 x2, .int .i64 x3, .int .i64 x4]) (.int .i64 1)).run Try.prog w = .ok (.int .i64 x1) w := by kernel_rfl
set_option maxRecDepth 100000 in
theorem index_row2 (ms : List Mv) (w : World) : (Instr.index 66 (.agg #[.int .i64 (tot ms 0), .int .i64 (tot ms 1), .int .i64 (tot ms 2), .int .i64 (tot ms 3), .int .i64 (tot ms 4), .int .i64 (tot ms 5), .int .i64 (tot ms 6), .int .i64 (tot ms 7), .int .i64 (tot ms 8), .int .i64 (tot ms 9), .int .i64 (tot ms 10), .int .i64 (tot ms 11), .int .i64 (tot ms 12), .int .i64 (tot ms 13), .int .i64 (tot ms 14), .int .i64 (tot ms 15), .int .i64 (tot ms 16), .int .i64 (tot ms 17), .int .i64 (tot ms 18), .int .i64 (tot ms 19), .int .i64 (tot ms 20), .int .i64 (tot ms 21), .int .i64 (tot ms 22), .int .i64 (tot ms 23), .int .i64 (tot ms 24)]) (.int .i64 2)).run Try.prog w = .ok (.agg #[.int .i64 (tot ms 10), .int .i64 (tot ms 11), .int .i64 (tot ms 12), .int .i64 (tot ms 13), .int .i64 (tot ms 14)]) w := by kernel_rfl
set_option maxRecDepth 100000 in
theorem index_cell2 (x0 x1 x2 x3 x4 : Int) (w : World) : (Instr.index 58 (.agg #[.int .i64 x0, .int .i64 x1, .int .i64 x2, .int .i64 x3, .int .i64 x4]) (.int .i64 2)).run Try.prog w = .ok (.int .i64 x2) w := by kernel_rfl
set_option maxRecDepth 100000 in
theorem index_row3 (ms : List Mv) (w : World) : (Instr.index 66 (.agg #[.int .i64 (tot ms 0), .int .i64 (tot ms 1), .int .i64 (tot ms 2), .int .i64 (tot ms 3), .int .i64 (tot ms 4), .int .i64 (tot ms 5), .int .i64 (tot ms 6), .int .i64 (tot ms 7), .int .i64 (tot ms 8), .int .i64 (tot ms 9), .int .i64 (tot ms 10), .int .i64 (tot ms 11), .int .i64 (tot ms 12), .int .i64 (tot ms 13), .int .i64 (tot ms 14), .int .i64 (tot ms 15), .int .i64 (tot ms 16), .int .i64 (tot ms 17), .int .i64 (tot ms 18), .int .i64 (tot ms 19), .int .i64 (tot ms 20), .int .i64 (tot ms 21), .int .i64 (tot ms 22), .int .i64 (tot ms 23), .int .i64 (tot ms 24)]) (.int .i64 3)).run Try.prog w = .ok (.agg #[.int .i64 (tot ms 15), .int .i64 (tot ms 16), .int .i64 (tot ms 17), .int .i64 (tot ms 18), .int .i64 (tot ms 19)]) w := by kernel_rfl
set_option maxRecDepth 100000 in
theorem index_cell3 (x0 x1 x2 x3 x4 : Int) (w : World) : (Instr.index 58 (.agg #[.int .i64 x0, .int .i64 x1, .int .i64 x2, .int .i64 x3, .int .i64 x4]) (.int .i64 3)).run Try.prog w = .ok (.int .i64 x3) w := by kernel_rfl
set_option maxRecDepth 100000 in
theorem index_row4 (ms : List Mv) (w : World) : (Instr.index 66 (.agg #[.int .i64 (tot ms 0), .int .i64 (tot ms 1), .int .i64 (tot ms 2), .int .i64 (tot ms 3), .int .i64 (tot ms 4), .int .i64 (tot ms 5), .int .i64 (tot ms 6), .int .i64 (tot ms 7), .int .i64 (tot ms 8), .int .i64 (tot ms 9), .int .i64 (tot ms 10), .int .i64 (tot ms 11), .int .i64 (tot ms 12), .int .i64 (tot ms 13), .int .i64 (tot ms 14), .int .i64 (tot ms 15), .int .i64 (tot ms 16), .int .i64 (tot ms 17), .int .i64 (tot ms 18), .int .i64 (tot ms 19), .int .i64 (tot ms 20), .int .i64 (tot ms 21), .int .i64 (tot ms 22), .int .i64 (tot ms 23), .int .i64 (tot ms 24)]) (.int .i64 4)).run Try.prog w = .ok (.agg #[.int .i64 (tot ms 20), .int .i64 (tot ms 21), .int .i64 (tot ms 22), .int .i64 (tot ms 23), .int .i64 (tot ms 24)]) w := by kernel_rfl
set_option maxRecDepth 100000 in
theorem index_cell4 (x0 x1 x2 x3 x4 : Int) (w : World) : (Instr.index 58 (.agg #[.int .i64 x0, .int .i64 x1, .int .i64 x2, .int .i64 x3, .int .i64 x4]) (.int .i64 4)).run Try.prog w = .ok (.int .i64 x4) w := by kernel_rfl
theorem index_row (ms : List Mv) (a : Nat) (ha : a < 5) (w : World) : (Instr.index 66 (.agg #[.int .i64 (tot ms 0), .int .i64 (tot ms 1), .int .i64 (tot ms 2), .int .i64 (tot ms 3), .int .i64 (tot ms 4), .int .i64 (tot ms 5), .int .i64 (tot ms 6), .int .i64 (tot ms 7), .int .i64 (tot ms 8), .int .i64 (tot ms 9), .int .i64 (tot ms 10), .int .i64 (tot ms 11), .int .i64 (tot ms 12), .int .i64 (tot ms 13), .int .i64 (tot ms 14), .int .i64 (tot ms 15), .int .i64 (tot ms 16), .int .i64 (tot ms 17), .int .i64 (tot ms 18), .int .i64 (tot ms 19), .int .i64 (tot ms 20), .int .i64 (tot ms 21), .int .i64 (tot ms 22), .int .i64 (tot ms 23), .int .i64 (tot ms 24)]) (.int .i64 (a : Int))).run Try.prog w = .ok (.agg (rowV ms a)) w := by
  have h5 : a = 0 ∨ a = 1 ∨ a = 2 ∨ a = 3 ∨ a = 4 := by omega
  rcases h5 with rfl | rfl | rfl | rfl | rfl
  · exact index_row0 ms w
  · exact index_row1 ms w
  · exact index_row2 ms w
  · exact index_row3 ms w
  · exact index_row4 ms w
theorem index_cell (ms : List Mv) (a b : Nat) (hb : b < 5) (w : World) : (Instr.index 58 (.agg (rowV ms a)) (.int .i64 (b : Int))).run Try.prog w = .ok (.int .i64 (tot ms (5 * a + b))) w := by
  have h5 : b = 0 ∨ b = 1 ∨ b = 2 ∨ b = 3 ∨ b = 4 := by omega
  rcases h5 with rfl | rfl | rfl | rfl | rfl
  · exact index_cell0 _ _ _ _ _ w
  · exact index_cell1 _ _ _ _ _ w
  · exact index_cell2 _ _ _ _ _ w
  · exact index_cell3 _ _ _ _ _ w
  · exact index_cell4 _ _ _ _ _ w
end Go.Proofs.Ytphinokacggnfaa
