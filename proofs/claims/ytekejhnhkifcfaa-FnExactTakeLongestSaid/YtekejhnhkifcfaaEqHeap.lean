/-
  No statement is proved here: eqHeap of the laws says that a heap is equal to itself; no condition.
-/
import Derived.Test.YtekejhnhkifcfaaHeap1
namespace Go.Proofs.Ytekejhnhkifcfaa
open Go.RowKit

set_option maxHeartbeats 2000000 in
theorem eqHeap_same (x0 x1 x2 x3 x4 x5 x6 x7 : Int) (w : World) : Calls Try.prog 13 #[.agg #[.int .i32 x0, .int .i32 x1, .int .i32 x2, .int .i32 x3, .int .i32 x4, .int .i32 x5, .int .i32 x6, .int .i32 x7], .agg #[.int .i32 x0, .int .i32 x1, .int .i32 x2, .int .i32 x3, .int .i32 x4, .int .i32 x5, .int .i32 x6, .int .i32 x7]] w fun e w' => e = .returned (.bool true) ∧ Below w.heap.size w w' := by
  have hne0 : (x0 != x0) = false := by simp
  have hne1 : (x1 != x1) = false := by simp
  have hne2 : (x2 != x2) = false := by simp
  have hne3 : (x3 != x3) = false := by simp
  have hne4 : (x4 != x4) = false := by simp
  have hne5 : (x5 != x5) = false := by simp
  have hne6 : (x6 != x6) = false := by simp
  have hne7 : (x7 != x7) = false := by simp
  go_enter Try.func13, Try.ntmps13
  go_wp2
  refine wp_loop_rounds 9 ?_
  iterate 8 (rw [rounds_succ]; go_wp2; go_quiet (fail); go_wp2)
  rw [rounds_succ]
  go_wp2
  go_ret
  refine ⟨rfl, ?_⟩
  repeat refine below_drewN ?_ _
  go_grown
end Go.Proofs.Ytekejhnhkifcfaa
