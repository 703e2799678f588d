/-
  No statement is proved here: what impl.SortOut returns where the heap is in order and the lengths are as told, for the least lengths 2, 3, 4, 5, 6, 7; no other condition.
-/
import Derived.Test.YthokpdhknohpoaaSort
namespace Go.Proofs.Ythokpdhknohpoaa
open Go.RowKit

set_option maxHeartbeats 8000000 in
theorem implSort_2 (x0 x1 x2 x3 x4 x5 x6 x7 : Int) (hok : okH (z8 x0 x1 x2 x3 x4 x5 x6 x7) = true) (w : World) (high : Int) (h1 : 2 ≤ high) (h2 : high ≤ 7) :
    Calls Try.prog 33 #[.agg #[.int .i32 x0, .int .i32 x1, .int .i32 x2, .int .i32 x3, .int .i32 x4, .int .i32 x5, .int .i32 x6, .int .i32 x7], .int .i64 2, .int .i64 high] w fun e w' => e = .returned (.tuple #[.agg #[.int .i32 (inH 2 high 0 x0), .int .i32 (inH 2 high 1 x1), .int .i32 (inH 2 high 2 x2), .int .i32 (inH 2 high 3 x3), .int .i32 (inH 2 high 4 x4), .int .i32 (inH 2 high 5 x5), .int .i32 (inH 2 high 6 x6), .int .i32 (inH 2 high 7 x7)], .agg #[.int .i32 (outH 2 high 0 x0), .int .i32 (outH 2 high 1 x1), .int .i32 (outH 2 high 2 x2), .int .i32 (outH 2 high 3 x3), .int .i32 (outH 2 high 4 x4), .int .i32 (outH 2 high 5 x5), .int .i32 (outH 2 high 6 x6), .int .i32 (outH 2 high 7 x7)], .int .i64 0]) ∧ Below w.heap.size w w' := by
  have hv := fun wx => validHeap_exact x0 x1 x2 x3 x4 x5 x6 x7 wx
  rw [hok] at hv
  have HV := Lib.hid hv
  clear hv hok
  have hk : high = 2 ∨ high = 3 ∨ high = 4 ∨ high = 5 ∨ high = 6 ∨ high = 7 := by omega
  clear h1 h2
  rcases hk with rfl | rfl | rfl | rfl | rfl | rfl
  all_goals
    go_enter Try.func33, Try.ntmps33
    go_wp2_with (go_at_call 22; refine (HV.out _).mono ?_; rintro e w' ⟨rfl, rfl⟩)
    go_rounds 9
    go_region
    all_goals
      go_wp2
      go_returns
      exact ⟨by simp [inH, outH], by go_grown⟩

set_option maxHeartbeats 8000000 in
theorem implSort_3 (x0 x1 x2 x3 x4 x5 x6 x7 : Int) (hok : okH (z8 x0 x1 x2 x3 x4 x5 x6 x7) = true) (w : World) (high : Int) (h1 : 3 ≤ high) (h2 : high ≤ 7) :
    Calls Try.prog 33 #[.agg #[.int .i32 x0, .int .i32 x1, .int .i32 x2, .int .i32 x3, .int .i32 x4, .int .i32 x5, .int .i32 x6, .int .i32 x7], .int .i64 3, .int .i64 high] w fun e w' => e = .returned (.tuple #[.agg #[.int .i32 (inH 3 high 0 x0), .int .i32 (inH 3 high 1 x1), .int .i32 (inH 3 high 2 x2), .int .i32 (inH 3 high 3 x3), .int .i32 (inH 3 high 4 x4), .int .i32 (inH 3 high 5 x5), .int .i32 (inH 3 high 6 x6), .int .i32 (inH 3 high 7 x7)], .agg #[.int .i32 (outH 3 high 0 x0), .int .i32 (outH 3 high 1 x1), .int .i32 (outH 3 high 2 x2), .int .i32 (outH 3 high 3 x3), .int .i32 (outH 3 high 4 x4), .int .i32 (outH 3 high 5 x5), .int .i32 (outH 3 high 6 x6), .int .i32 (outH 3 high 7 x7)], .int .i64 0]) ∧ Below w.heap.size w w' := by
  have hv := fun wx => validHeap_exact x0 x1 x2 x3 x4 x5 x6 x7 wx
  rw [hok] at hv
  have HV := Lib.hid hv
  clear hv hok
  have hk : high = 3 ∨ high = 4 ∨ high = 5 ∨ high = 6 ∨ high = 7 := by omega
  clear h1 h2
  rcases hk with rfl | rfl | rfl | rfl | rfl
  all_goals
    go_enter Try.func33, Try.ntmps33
    go_wp2_with (go_at_call 22; refine (HV.out _).mono ?_; rintro e w' ⟨rfl, rfl⟩)
    go_rounds 9
    go_region
    all_goals
      go_wp2
      go_returns
      exact ⟨by simp [inH, outH], by go_grown⟩

set_option maxHeartbeats 8000000 in
theorem implSort_4 (x0 x1 x2 x3 x4 x5 x6 x7 : Int) (hok : okH (z8 x0 x1 x2 x3 x4 x5 x6 x7) = true) (w : World) (high : Int) (h1 : 4 ≤ high) (h2 : high ≤ 7) :
    Calls Try.prog 33 #[.agg #[.int .i32 x0, .int .i32 x1, .int .i32 x2, .int .i32 x3, .int .i32 x4, .int .i32 x5, .int .i32 x6, .int .i32 x7], .int .i64 4, .int .i64 high] w fun e w' => e = .returned (.tuple #[.agg #[.int .i32 (inH 4 high 0 x0), .int .i32 (inH 4 high 1 x1), .int .i32 (inH 4 high 2 x2), .int .i32 (inH 4 high 3 x3), .int .i32 (inH 4 high 4 x4), .int .i32 (inH 4 high 5 x5), .int .i32 (inH 4 high 6 x6), .int .i32 (inH 4 high 7 x7)], .agg #[.int .i32 (outH 4 high 0 x0), .int .i32 (outH 4 high 1 x1), .int .i32 (outH 4 high 2 x2), .int .i32 (outH 4 high 3 x3), .int .i32 (outH 4 high 4 x4), .int .i32 (outH 4 high 5 x5), .int .i32 (outH 4 high 6 x6), .int .i32 (outH 4 high 7 x7)], .int .i64 0]) ∧ Below w.heap.size w w' := by
  have hv := fun wx => validHeap_exact x0 x1 x2 x3 x4 x5 x6 x7 wx
  rw [hok] at hv
  have HV := Lib.hid hv
  clear hv hok
  have hk : high = 4 ∨ high = 5 ∨ high = 6 ∨ high = 7 := by omega
  clear h1 h2
  rcases hk with rfl | rfl | rfl | rfl
  all_goals
    go_enter Try.func33, Try.ntmps33
    go_wp2_with (go_at_call 22; refine (HV.out _).mono ?_; rintro e w' ⟨rfl, rfl⟩)
    go_rounds 9
    go_region
    all_goals
      go_wp2
      go_returns
      exact ⟨by simp [inH, outH], by go_grown⟩

set_option maxHeartbeats 8000000 in
theorem implSort_5 (x0 x1 x2 x3 x4 x5 x6 x7 : Int) (hok : okH (z8 x0 x1 x2 x3 x4 x5 x6 x7) = true) (w : World) (high : Int) (h1 : 5 ≤ high) (h2 : high ≤ 7) :
    Calls Try.prog 33 #[.agg #[.int .i32 x0, .int .i32 x1, .int .i32 x2, .int .i32 x3, .int .i32 x4, .int .i32 x5, .int .i32 x6, .int .i32 x7], .int .i64 5, .int .i64 high] w fun e w' => e = .returned (.tuple #[.agg #[.int .i32 (inH 5 high 0 x0), .int .i32 (inH 5 high 1 x1), .int .i32 (inH 5 high 2 x2), .int .i32 (inH 5 high 3 x3), .int .i32 (inH 5 high 4 x4), .int .i32 (inH 5 high 5 x5), .int .i32 (inH 5 high 6 x6), .int .i32 (inH 5 high 7 x7)], .agg #[.int .i32 (outH 5 high 0 x0), .int .i32 (outH 5 high 1 x1), .int .i32 (outH 5 high 2 x2), .int .i32 (outH 5 high 3 x3), .int .i32 (outH 5 high 4 x4), .int .i32 (outH 5 high 5 x5), .int .i32 (outH 5 high 6 x6), .int .i32 (outH 5 high 7 x7)], .int .i64 0]) ∧ Below w.heap.size w w' := by
  have hv := fun wx => validHeap_exact x0 x1 x2 x3 x4 x5 x6 x7 wx
  rw [hok] at hv
  have HV := Lib.hid hv
  clear hv hok
  have hk : high = 5 ∨ high = 6 ∨ high = 7 := by omega
  clear h1 h2
  rcases hk with rfl | rfl | rfl
  all_goals
    go_enter Try.func33, Try.ntmps33
    go_wp2_with (go_at_call 22; refine (HV.out _).mono ?_; rintro e w' ⟨rfl, rfl⟩)
    go_rounds 9
    go_region
    all_goals
      go_wp2
      go_returns
      exact ⟨by simp [inH, outH], by go_grown⟩

set_option maxHeartbeats 8000000 in
theorem implSort_6 (x0 x1 x2 x3 x4 x5 x6 x7 : Int) (hok : okH (z8 x0 x1 x2 x3 x4 x5 x6 x7) = true) (w : World) (high : Int) (h1 : 6 ≤ high) (h2 : high ≤ 7) :
    Calls Try.prog 33 #[.agg #[.int .i32 x0, .int .i32 x1, .int .i32 x2, .int .i32 x3, .int .i32 x4, .int .i32 x5, .int .i32 x6, .int .i32 x7], .int .i64 6, .int .i64 high] w fun e w' => e = .returned (.tuple #[.agg #[.int .i32 (inH 6 high 0 x0), .int .i32 (inH 6 high 1 x1), .int .i32 (inH 6 high 2 x2), .int .i32 (inH 6 high 3 x3), .int .i32 (inH 6 high 4 x4), .int .i32 (inH 6 high 5 x5), .int .i32 (inH 6 high 6 x6), .int .i32 (inH 6 high 7 x7)], .agg #[.int .i32 (outH 6 high 0 x0), .int .i32 (outH 6 high 1 x1), .int .i32 (outH 6 high 2 x2), .int .i32 (outH 6 high 3 x3), .int .i32 (outH 6 high 4 x4), .int .i32 (outH 6 high 5 x5), .int .i32 (outH 6 high 6 x6), .int .i32 (outH 6 high 7 x7)], .int .i64 0]) ∧ Below w.heap.size w w' := by
  have hv := fun wx => validHeap_exact x0 x1 x2 x3 x4 x5 x6 x7 wx
  rw [hok] at hv
  have HV := Lib.hid hv
  clear hv hok
  have hk : high = 6 ∨ high = 7 := by omega
  clear h1 h2
  rcases hk with rfl | rfl
  all_goals
    go_enter Try.func33, Try.ntmps33
    go_wp2_with (go_at_call 22; refine (HV.out _).mono ?_; rintro e w' ⟨rfl, rfl⟩)
    go_rounds 9
    go_region
    all_goals
      go_wp2
      go_returns
      exact ⟨by simp [inH, outH], by go_grown⟩

set_option maxHeartbeats 8000000 in
theorem implSort_7 (x0 x1 x2 x3 x4 x5 x6 x7 : Int) (hok : okH (z8 x0 x1 x2 x3 x4 x5 x6 x7) = true) (w : World) (high : Int) (h1 : 7 ≤ high) (h2 : high ≤ 7) :
    Calls Try.prog 33 #[.agg #[.int .i32 x0, .int .i32 x1, .int .i32 x2, .int .i32 x3, .int .i32 x4, .int .i32 x5, .int .i32 x6, .int .i32 x7], .int .i64 7, .int .i64 high] w fun e w' => e = .returned (.tuple #[.agg #[.int .i32 (inH 7 high 0 x0), .int .i32 (inH 7 high 1 x1), .int .i32 (inH 7 high 2 x2), .int .i32 (inH 7 high 3 x3), .int .i32 (inH 7 high 4 x4), .int .i32 (inH 7 high 5 x5), .int .i32 (inH 7 high 6 x6), .int .i32 (inH 7 high 7 x7)], .agg #[.int .i32 (outH 7 high 0 x0), .int .i32 (outH 7 high 1 x1), .int .i32 (outH 7 high 2 x2), .int .i32 (outH 7 high 3 x3), .int .i32 (outH 7 high 4 x4), .int .i32 (outH 7 high 5 x5), .int .i32 (outH 7 high 6 x6), .int .i32 (outH 7 high 7 x7)], .int .i64 0]) ∧ Below w.heap.size w w' := by
  have hv := fun wx => validHeap_exact x0 x1 x2 x3 x4 x5 x6 x7 wx
  rw [hok] at hv
  have HV := Lib.hid hv
  clear hv hok
  have hk : high = 7 := by omega
  clear h1 h2
  rcases hk with rfl
  all_goals
    go_enter Try.func33, Try.ntmps33
    go_wp2_with (go_at_call 22; refine (HV.out _).mono ?_; rintro e w' ⟨rfl, rfl⟩)
    go_rounds 9
    go_region
    all_goals
      go_wp2
      go_returns
      exact ⟨by simp [inH, outH], by go_grown⟩
end Go.Proofs.Ythokpdhknohpoaa
