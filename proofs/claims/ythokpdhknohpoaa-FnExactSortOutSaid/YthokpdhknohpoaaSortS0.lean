/-
  No statement is proved here: what spec.SortOut returns where the heap is in order and the lengths are as told, for the least lengths 0, 1; no other condition.
-/
import Derived.Test.YthokpdhknohpoaaSort
namespace Go.Proofs.Ythokpdhknohpoaa
open Go.RowKit

set_option maxHeartbeats 8000000 in
theorem specSort_0 (x0 x1 x2 x3 x4 x5 x6 x7 : Int) (hb : bd32 (z8 x0 x1 x2 x3 x4 x5 x6 x7)) (hok : okH (z8 x0 x1 x2 x3 x4 x5 x6 x7) = true) (w : World) (high : Int) (h1 : 0 ≤ high) (h2 : high ≤ 7) :
    Calls Try.prog 32 #[.agg #[.int .i32 x0, .int .i32 x1, .int .i32 x2, .int .i32 x3, .int .i32 x4, .int .i32 x5, .int .i32 x6, .int .i32 x7], .int .i64 0, .int .i64 high] w fun e w' => e = .returned (.tuple #[.agg #[.int .i32 (inH 0 high 0 x0), .int .i32 (inH 0 high 1 x1), .int .i32 (inH 0 high 2 x2), .int .i32 (inH 0 high 3 x3), .int .i32 (inH 0 high 4 x4), .int .i32 (inH 0 high 5 x5), .int .i32 (inH 0 high 6 x6), .int .i32 (inH 0 high 7 x7)], .agg #[.int .i32 (outH 0 high 0 x0), .int .i32 (outH 0 high 1 x1), .int .i32 (outH 0 high 2 x2), .int .i32 (outH 0 high 3 x3), .int .i32 (outH 0 high 4 x4), .int .i32 (outH 0 high 5 x5), .int .i32 (outH 0 high 6 x6), .int .i32 (outH 0 high 7 x7)], .int .i64 0]) ∧ Below w.heap.size w w' := by
  have ha := asked_any (z8 x0 x1 x2 x3 x4 x5 x6 x7) w.heap.size 0 true _ (heapAt3 w x0 x1 x2 x3 x4 x5 x6 x7 35 (.cells #[.int .i32 0, .int .i32 0, .int .i32 0, .int .i32 0, .int .i32 0, .int .i32 0, .int .i32 0, .int .i32 0] 35) (.cells #[.int .i32 0, .int .i32 0, .int .i32 0, .int .i32 0, .int .i32 0, .int .i32 0, .int .i32 0, .int .i32 0] 35)) hb
  rw [hok] at ha
  have HA := Lib.hid ha
  clear ha hok hb
  have hk : high = 0 ∨ high = 1 ∨ high = 2 ∨ high = 3 ∨ high = 4 ∨ high = 5 ∨ high = 6 ∨ high = 7 := by omega
  clear h1 h2
  rcases hk with rfl | rfl | rfl | rfl | rfl | rfl | rfl | rfl
  all_goals
    go_enter Try.func32, Try.ntmps32
    go_wp2_with (first | (go_at_call 62; refine HA.out.mono ?_; rintro e w' ⟨rfl, rfl⟩) | (go_at_call 61; go_in))
    go_rounds 9
    go_region
    all_goals
      go_wp2
      go_returns
      exact ⟨by simp [inH, outH], by go_grown⟩

set_option maxHeartbeats 8000000 in
theorem specSort_1 (x0 x1 x2 x3 x4 x5 x6 x7 : Int) (hb : bd32 (z8 x0 x1 x2 x3 x4 x5 x6 x7)) (hok : okH (z8 x0 x1 x2 x3 x4 x5 x6 x7) = true) (w : World) (high : Int) (h1 : 1 ≤ high) (h2 : high ≤ 7) :
    Calls Try.prog 32 #[.agg #[.int .i32 x0, .int .i32 x1, .int .i32 x2, .int .i32 x3, .int .i32 x4, .int .i32 x5, .int .i32 x6, .int .i32 x7], .int .i64 1, .int .i64 high] w fun e w' => e = .returned (.tuple #[.agg #[.int .i32 (inH 1 high 0 x0), .int .i32 (inH 1 high 1 x1), .int .i32 (inH 1 high 2 x2), .int .i32 (inH 1 high 3 x3), .int .i32 (inH 1 high 4 x4), .int .i32 (inH 1 high 5 x5), .int .i32 (inH 1 high 6 x6), .int .i32 (inH 1 high 7 x7)], .agg #[.int .i32 (outH 1 high 0 x0), .int .i32 (outH 1 high 1 x1), .int .i32 (outH 1 high 2 x2), .int .i32 (outH 1 high 3 x3), .int .i32 (outH 1 high 4 x4), .int .i32 (outH 1 high 5 x5), .int .i32 (outH 1 high 6 x6), .int .i32 (outH 1 high 7 x7)], .int .i64 0]) ∧ Below w.heap.size w w' := by
  have ha := asked_any (z8 x0 x1 x2 x3 x4 x5 x6 x7) w.heap.size 0 true _ (heapAt3 w x0 x1 x2 x3 x4 x5 x6 x7 35 (.cells #[.int .i32 0, .int .i32 0, .int .i32 0, .int .i32 0, .int .i32 0, .int .i32 0, .int .i32 0, .int .i32 0] 35) (.cells #[.int .i32 0, .int .i32 0, .int .i32 0, .int .i32 0, .int .i32 0, .int .i32 0, .int .i32 0, .int .i32 0] 35)) hb
  rw [hok] at ha
  have HA := Lib.hid ha
  clear ha hok hb
  have hk : high = 1 ∨ high = 2 ∨ high = 3 ∨ high = 4 ∨ high = 5 ∨ high = 6 ∨ high = 7 := by omega
  clear h1 h2
  rcases hk with rfl | rfl | rfl | rfl | rfl | rfl | rfl
  all_goals
    go_enter Try.func32, Try.ntmps32
    go_wp2_with (first | (go_at_call 62; refine HA.out.mono ?_; rintro e w' ⟨rfl, rfl⟩) | (go_at_call 61; go_in))
    go_rounds 9
    go_region
    all_goals
      go_wp2
      go_returns
      exact ⟨by simp [inH, outH], by go_grown⟩
end Go.Proofs.Ythokpdhknohpoaa
