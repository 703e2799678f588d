/-
  No statement is proved here: what toHeap of the laws returns and lays, to the cell; no condition.
-/
import Derived.Test.YthokpdhknohpoaaHeap1
namespace Go.Proofs.Ythokpdhknohpoaa
open Go.RowKit

set_option maxHeartbeats 1000000 in
theorem toHeap_exact (x0 x1 x2 x3 x4 x5 x6 x7 : Int) (w : World) : Calls Try.prog 21 #[.agg #[.int .i32 x0, .int .i32 x1, .int .i32 x2, .int .i32 x3, .int .i32 x4, .int .i32 x5, .int .i32 x6, .int .i32 x7]] w fun e w' => e = .returned (.agg #[.int .i32 x0, .int .i32 x1, .int .i32 x2, .int .i32 x3, .int .i32 x4, .int .i32 x5, .int .i32 x6, .int .i32 x7]) ∧ ((w.alloc (.cells #[.int .i32 x0, .int .i32 x1, .int .i32 x2, .int .i32 x3, .int .i32 x4, .int .i32 x5, .int .i32 x6, .int .i32 x7] 33)).alloc (.cells #[.int .i32 x0, .int .i32 x1, .int .i32 x2, .int .i32 x3, .int .i32 x4, .int .i32 x5, .int .i32 x6, .int .i32 x7] 35)).alloc (.cells #[.int .i32 x0, .int .i32 x1, .int .i32 x2, .int .i32 x3, .int .i32 x4, .int .i32 x5, .int .i32 x6, .int .i32 x7] 35) = w' := by
  go_enter Try.func21, Try.ntmps21
  go_wp2
  go_rounds 9
  go_returns
  exact ⟨rfl, rfl⟩
end Go.Proofs.Ythokpdhknohpoaa
