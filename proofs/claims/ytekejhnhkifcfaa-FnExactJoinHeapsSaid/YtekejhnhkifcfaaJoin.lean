/-
  No statement is proved here: what JoinHeaps of both packages returns; no condition but that the numbers are int32s.
-/
import Derived.Test.YtekejhnhkifcfaaHeapX
namespace Go.Proofs.Ytekejhnhkifcfaa
open Go.RowKit

/-- Two heaps that are in order have sums that fit. -/
def Small (x y : Int) : Prop := (0 ≤ x ∧ x ≤ 1000) ∧ (0 ≤ y ∧ y ≤ 1000)

set_option maxHeartbeats 2000000 in
theorem plus_exact (x0 x1 x2 x3 x4 x5 x6 x7 y0 y1 y2 y3 y4 y5 y6 y7 : Int) (hx : okH (z8 x0 x1 x2 x3 x4 x5 x6 x7) = true) (hy : okH (z8 y0 y1 y2 y3 y4 y5 y6 y7) = true) (w : World) :
    Calls Try.prog 35 #[.agg #[.int .i32 x0, .int .i32 x1, .int .i32 x2, .int .i32 x3, .int .i32 x4, .int .i32 x5, .int .i32 x6, .int .i32 x7], .agg #[.int .i32 y0, .int .i32 y1, .int .i32 y2, .int .i32 y3, .int .i32 y4, .int .i32 y5, .int .i32 y6, .int .i32 y7]] w fun e w' => e = .returned (.agg #[.int .i32 (x0 + y0), .int .i32 (x1 + y1), .int .i32 (x2 + y2), .int .i32 (x3 + y3), .int .i32 (x4 + y4), .int .i32 (x5 + y5), .int .i32 (x6 + y6), .int .i32 (x7 + y7)]) ∧ ((w.alloc (.cells #[.int .i32 (x0 + y0), .int .i32 (x1 + y1), .int .i32 (x2 + y2), .int .i32 (x3 + y3), .int .i32 (x4 + y4), .int .i32 (x5 + y5), .int .i32 (x6 + y6), .int .i32 (x7 + y7)] 23)).alloc (.cells #[.int .i32 y0, .int .i32 y1, .int .i32 y2, .int .i32 y3, .int .i32 y4, .int .i32 y5, .int .i32 y6, .int .i32 y7] 23)).alloc (.cells #[.int .i32 (x0 + y0), .int .i32 (x1 + y1), .int .i32 (x2 + y2), .int .i32 (x3 + y3), .int .i32 (x4 + y4), .int .i32 (x5 + y5), .int .i32 (x6 + y6), .int .i32 (x7 + y7)] 23) = w' := by
  have bx := ok8_of hx
  have by' := ok8_of hy
  clear hx hy
  have i0 : ∀ w : World, (Instr.index 23 (.agg #[.int .i32 y0, .int .i32 y1, .int .i32 y2, .int .i32 y3, .int .i32 y4, .int .i32 y5, .int .i32 y6, .int .i32 y7]) (.int .i64 0)).run Try.prog w = .ok (.int .i32 y0) w := fun _ => by kernel_rfl
  have i1 : ∀ w : World, (Instr.index 23 (.agg #[.int .i32 y0, .int .i32 y1, .int .i32 y2, .int .i32 y3, .int .i32 y4, .int .i32 y5, .int .i32 y6, .int .i32 y7]) (.int .i64 1)).run Try.prog w = .ok (.int .i32 y1) w := fun _ => by kernel_rfl
  have i2 : ∀ w : World, (Instr.index 23 (.agg #[.int .i32 y0, .int .i32 y1, .int .i32 y2, .int .i32 y3, .int .i32 y4, .int .i32 y5, .int .i32 y6, .int .i32 y7]) (.int .i64 2)).run Try.prog w = .ok (.int .i32 y2) w := fun _ => by kernel_rfl
  have i3 : ∀ w : World, (Instr.index 23 (.agg #[.int .i32 y0, .int .i32 y1, .int .i32 y2, .int .i32 y3, .int .i32 y4, .int .i32 y5, .int .i32 y6, .int .i32 y7]) (.int .i64 3)).run Try.prog w = .ok (.int .i32 y3) w := fun _ => by kernel_rfl
  have i4 : ∀ w : World, (Instr.index 23 (.agg #[.int .i32 y0, .int .i32 y1, .int .i32 y2, .int .i32 y3, .int .i32 y4, .int .i32 y5, .int .i32 y6, .int .i32 y7]) (.int .i64 4)).run Try.prog w = .ok (.int .i32 y4) w := fun _ => by kernel_rfl
  have i5 : ∀ w : World, (Instr.index 23 (.agg #[.int .i32 y0, .int .i32 y1, .int .i32 y2, .int .i32 y3, .int .i32 y4, .int .i32 y5, .int .i32 y6, .int .i32 y7]) (.int .i64 5)).run Try.prog w = .ok (.int .i32 y5) w := fun _ => by kernel_rfl
  have i6 : ∀ w : World, (Instr.index 23 (.agg #[.int .i32 y0, .int .i32 y1, .int .i32 y2, .int .i32 y3, .int .i32 y4, .int .i32 y5, .int .i32 y6, .int .i32 y7]) (.int .i64 6)).run Try.prog w = .ok (.int .i32 y6) w := fun _ => by kernel_rfl
  have i7 : ∀ w : World, (Instr.index 23 (.agg #[.int .i32 y0, .int .i32 y1, .int .i32 y2, .int .i32 y3, .int .i32 y4, .int .i32 y5, .int .i32 y6, .int .i32 y7]) (.int .i64 7)).run Try.prog w = .ok (.int .i32 y7) w := fun _ => by kernel_rfl
  go_enter Try.func35, Try.ntmps35
  go_wp2
  go_rounds 9
  go_returns
  exact ⟨rfl, rfl⟩

set_option maxHeartbeats 2000000 in
theorem specJoin_no (x0 x1 x2 x3 x4 x5 x6 x7 y0 y1 y2 y3 y4 y5 y6 y7 : Int) (hbx : bd32 (z8 x0 x1 x2 x3 x4 x5 x6 x7)) (hby : bd32 (z8 y0 y1 y2 y3 y4 y5 y6 y7)) (h : (okH (z8 x0 x1 x2 x3 x4 x5 x6 x7) && okH (z8 y0 y1 y2 y3 y4 y5 y6 y7)) = false) (w : World) :
    Calls Try.prog 10 #[.agg #[.int .i32 x0, .int .i32 x1, .int .i32 x2, .int .i32 x3, .int .i32 x4, .int .i32 x5, .int .i32 x6, .int .i32 x7], .agg #[.int .i32 y0, .int .i32 y1, .int .i32 y2, .int .i32 y3, .int .i32 y4, .int .i32 y5, .int .i32 y6, .int .i32 y7]] w fun e w' => e = .returned (.tuple #[.agg #[.int .i32 0, .int .i32 0, .int .i32 0, .int .i32 0, .int .i32 0, .int .i32 0, .int .i32 0, .int .i32 0], .int .i64 1]) ∧ Below w.heap.size w w' := by
  have h1 := Lib.hid (l01Heap_any (z8 x0 x1 x2 x3 x4 x5 x6 x7) w.heap.size 0 _ (heapAt3 w x0 x1 x2 x3 x4 x5 x6 x7 23 (.cells #[.int .i32 y0, .int .i32 y1, .int .i32 y2, .int .i32 y3, .int .i32 y4, .int .i32 y5, .int .i32 y6, .int .i32 y7] 23) (.cells #[.int .i32 0, .int .i32 0, .int .i32 0, .int .i32 0, .int .i32 0, .int .i32 0, .int .i32 0, .int .i32 0] 23)) hbx)
  have h2 := Lib.hid (l01Heap_any (z8 y0 y1 y2 y3 y4 y5 y6 y7) (w.heap.size + 1) 0 _ (heapAt3b w y0 y1 y2 y3 y4 y5 y6 y7 23 (.cells #[.int .i32 x0, .int .i32 x1, .int .i32 x2, .int .i32 x3, .int .i32 x4, .int .i32 x5, .int .i32 x6, .int .i32 x7] 23) (.cells #[.int .i32 0, .int .i32 0, .int .i32 0, .int .i32 0, .int .i32 0, .int .i32 0, .int .i32 0, .int .i32 0] 23)) hby)
  clear hbx hby
  generalize okH (z8 x0 x1 x2 x3 x4 x5 x6 x7) = ox at *
  generalize okH (z8 y0 y1 y2 y3 y4 y5 y6 y7) = oy at *
  cases ox with
  | false =>
    clear h h2
    go_enter Try.func10, Try.ntmps10
    go_wp2_with fail
    refine h1.out.mono ?_
    rintro e w1 ⟨rfl, rfl⟩
    go_wp2
    go_returns
    exact ⟨rfl, by go_grown⟩
  | true =>
    simp only [Bool.true_and] at h
    subst h
    go_enter Try.func10, Try.ntmps10
    go_wp2_with fail
    refine h1.out.mono ?_
    rintro e w1 ⟨rfl, rfl⟩
    go_wp2_with fail
    refine h2.out.mono ?_
    rintro e w1 ⟨rfl, rfl⟩
    go_wp2
    go_returns
    exact ⟨rfl, by go_grown⟩

set_option maxHeartbeats 4000000 in
theorem specJoin_yes (x0 x1 x2 x3 x4 x5 x6 x7 y0 y1 y2 y3 y4 y5 y6 y7 : Int) (h1x : okH (z8 x0 x1 x2 x3 x4 x5 x6 x7) = true) (h1y : okH (z8 y0 y1 y2 y3 y4 y5 y6 y7) = true) (w : World) :
    Calls Try.prog 10 #[.agg #[.int .i32 x0, .int .i32 x1, .int .i32 x2, .int .i32 x3, .int .i32 x4, .int .i32 x5, .int .i32 x6, .int .i32 x7], .agg #[.int .i32 y0, .int .i32 y1, .int .i32 y2, .int .i32 y3, .int .i32 y4, .int .i32 y5, .int .i32 y6, .int .i32 y7]] w fun e w' => e = .returned (.tuple (if okH (z8 (x0 + y0) (x1 + y1) (x2 + y2) (x3 + y3) (x4 + y4) (x5 + y5) (x6 + y6) (x7 + y7)) = true then #[.agg #[.int .i32 (x0 + y0), .int .i32 (x1 + y1), .int .i32 (x2 + y2), .int .i32 (x3 + y3), .int .i32 (x4 + y4), .int .i32 (x5 + y5), .int .i32 (x6 + y6), .int .i32 (x7 + y7)], .int .i64 0] else #[.agg #[.int .i32 0, .int .i32 0, .int .i32 0, .int .i32 0, .int .i32 0, .int .i32 0, .int .i32 0, .int .i32 0], .int .i64 3])) ∧ Below w.heap.size w w' := by
  have bx := ok8_of h1x
  have by' := ok8_of h1y
  have hbx : bd32 (z8 x0 x1 x2 x3 x4 x5 x6 x7) := bd32_z8 (by unfold in32; omega) (by unfold in32; omega) (by unfold in32; omega) (by unfold in32; omega) (by unfold in32; omega) (by unfold in32; omega) (by unfold in32; omega) (by unfold in32; omega)
  have hby : bd32 (z8 y0 y1 y2 y3 y4 y5 y6 y7) := bd32_z8 (by unfold in32; omega) (by unfold in32; omega) (by unfold in32; omega) (by unfold in32; omega) (by unfold in32; omega) (by unfold in32; omega) (by unfold in32; omega) (by unfold in32; omega)
  have hbs : bd32 (z8 (x0 + y0) (x1 + y1) (x2 + y2) (x3 + y3) (x4 + y4) (x5 + y5) (x6 + y6) (x7 + y7)) := bd32_z8 (by unfold in32; omega) (by unfold in32; omega) (by unfold in32; omega) (by unfold in32; omega) (by unfold in32; omega) (by unfold in32; omega) (by unfold in32; omega) (by unfold in32; omega)
  have h1 := l01Heap_any (z8 x0 x1 x2 x3 x4 x5 x6 x7) w.heap.size 0 _ (heapAt3 w x0 x1 x2 x3 x4 x5 x6 x7 23 (.cells #[.int .i32 y0, .int .i32 y1, .int .i32 y2, .int .i32 y3, .int .i32 y4, .int .i32 y5, .int .i32 y6, .int .i32 y7] 23) (.cells #[.int .i32 0, .int .i32 0, .int .i32 0, .int .i32 0, .int .i32 0, .int .i32 0, .int .i32 0, .int .i32 0] 23)) hbx
  have h2 := l01Heap_any (z8 y0 y1 y2 y3 y4 y5 y6 y7) (w.heap.size + 1) 0 _ (heapAt3b w y0 y1 y2 y3 y4 y5 y6 y7 23 (.cells #[.int .i32 x0, .int .i32 x1, .int .i32 x2, .int .i32 x3, .int .i32 x4, .int .i32 x5, .int .i32 x6, .int .i32 x7] 23) (.cells #[.int .i32 0, .int .i32 0, .int .i32 0, .int .i32 0, .int .i32 0, .int .i32 0, .int .i32 0, .int .i32 0] 23)) hby
  rw [h1x] at h1
  rw [h1y] at h2
  have H1 := Lib.hid h1
  have H2 := Lib.hid h2
  have H3 := Lib.hid fun wx hx => l01Heap_any (z8 (x0 + y0) (x1 + y1) (x2 + y2) (x3 + y3) (x4 + y4) (x5 + y5) (x6 + y6) (x7 + y7)) w.heap.size 0 wx hx hbs
  clear h1 h2 h1x h1y hbx hby hbs
  generalize hok : okH (z8 (x0 + y0) (x1 + y1) (x2 + y2) (x3 + y3) (x4 + y4) (x5 + y5) (x6 + y6) (x7 + y7)) = ok at *
  clear hok
  go_enter Try.func10, Try.ntmps10
  go_wp2_with fail
  refine H1.out.mono ?_
  rintro e w1 ⟨rfl, rfl⟩
  go_wp2_with fail
  refine H2.out.mono ?_
  rintro e w1 ⟨rfl, rfl⟩
  go_wp2
  refine wp_loop_rounds 9 ?_
  iterate 8 (rw [rounds_succ]; go_wp2; go_region; go_wp2)
  rw [rounds_succ]
  go_wp2_with fail
  refine (H3.out _ ?_).mono ?_
  · intro k hk
    exact heapAt3 w (x0 + y0) (x1 + y1) (x2 + y2) (x3 + y3) (x4 + y4) (x5 + y5) (x6 + y6) (x7 + y7) 23 (.cells #[.int .i32 y0, .int .i32 y1, .int .i32 y2, .int .i32 y3, .int .i32 y4, .int .i32 y5, .int .i32 y6, .int .i32 y7] 23) (.cells #[.int .i32 0, .int .i32 0, .int .i32 0, .int .i32 0, .int .i32 0, .int .i32 0, .int .i32 0, .int .i32 0] 23) k hk
  rintro e w1 ⟨rfl, rfl⟩
  cases ok with
  | false =>
    go_wp2
    go_returns
    exact ⟨rfl, by go_grown⟩
  | true =>
    go_wp2
    go_returns
    exact ⟨rfl, by go_grown⟩

set_option maxHeartbeats 1000000 in
theorem implJoin_no (x0 x1 x2 x3 x4 x5 x6 x7 y0 y1 y2 y3 y4 y5 y6 y7 : Int) (h : (okH (z8 x0 x1 x2 x3 x4 x5 x6 x7) && okH (z8 y0 y1 y2 y3 y4 y5 y6 y7)) = false) (w : World) :
    Calls Try.prog 12 #[.agg #[.int .i32 x0, .int .i32 x1, .int .i32 x2, .int .i32 x3, .int .i32 x4, .int .i32 x5, .int .i32 x6, .int .i32 x7], .agg #[.int .i32 y0, .int .i32 y1, .int .i32 y2, .int .i32 y3, .int .i32 y4, .int .i32 y5, .int .i32 y6, .int .i32 y7]] w fun e w' => e = .returned (.tuple #[.agg #[.int .i32 0, .int .i32 0, .int .i32 0, .int .i32 0, .int .i32 0, .int .i32 0, .int .i32 0, .int .i32 0], .int .i64 1]) ∧ Below w.heap.size w w' := by
  have h1 := Lib.hid fun wx => validHeap_exact x0 x1 x2 x3 x4 x5 x6 x7 wx
  have h2 := Lib.hid fun wx => validHeap_exact y0 y1 y2 y3 y4 y5 y6 y7 wx
  generalize okH (z8 x0 x1 x2 x3 x4 x5 x6 x7) = ox at *
  generalize okH (z8 y0 y1 y2 y3 y4 y5 y6 y7) = oy at *
  cases ox with
  | false =>
    clear h h2
    go_enter Try.func12, Try.ntmps12
    go_wp2_with fail
    refine (h1.out _).mono ?_
    rintro e w1 ⟨rfl, rfl⟩
    go_wp2
    go_returns
    exact ⟨rfl, by go_grown⟩
  | true =>
    simp only [Bool.true_and] at h
    subst h
    go_enter Try.func12, Try.ntmps12
    go_wp2_with fail
    refine (h1.out _).mono ?_
    rintro e w1 ⟨rfl, rfl⟩
    go_wp2_with fail
    refine (h2.out _).mono ?_
    rintro e w1 ⟨rfl, rfl⟩
    go_wp2
    go_returns
    exact ⟨rfl, by go_grown⟩

set_option maxHeartbeats 2000000 in
theorem implJoin_yes (x0 x1 x2 x3 x4 x5 x6 x7 y0 y1 y2 y3 y4 y5 y6 y7 : Int) (h1x : okH (z8 x0 x1 x2 x3 x4 x5 x6 x7) = true) (h1y : okH (z8 y0 y1 y2 y3 y4 y5 y6 y7) = true) (w : World) :
    Calls Try.prog 12 #[.agg #[.int .i32 x0, .int .i32 x1, .int .i32 x2, .int .i32 x3, .int .i32 x4, .int .i32 x5, .int .i32 x6, .int .i32 x7], .agg #[.int .i32 y0, .int .i32 y1, .int .i32 y2, .int .i32 y3, .int .i32 y4, .int .i32 y5, .int .i32 y6, .int .i32 y7]] w fun e w' => e = .returned (.tuple (if okH (z8 (x0 + y0) (x1 + y1) (x2 + y2) (x3 + y3) (x4 + y4) (x5 + y5) (x6 + y6) (x7 + y7)) = true then #[.agg #[.int .i32 (x0 + y0), .int .i32 (x1 + y1), .int .i32 (x2 + y2), .int .i32 (x3 + y3), .int .i32 (x4 + y4), .int .i32 (x5 + y5), .int .i32 (x6 + y6), .int .i32 (x7 + y7)], .int .i64 0] else #[.agg #[.int .i32 0, .int .i32 0, .int .i32 0, .int .i32 0, .int .i32 0, .int .i32 0, .int .i32 0, .int .i32 0], .int .i64 3])) ∧ Below w.heap.size w w' := by
  have hp := Lib.hid fun wx => plus_exact x0 x1 x2 x3 x4 x5 x6 x7 y0 y1 y2 y3 y4 y5 y6 y7 h1x h1y wx
  have h1 := fun wx => validHeap_exact x0 x1 x2 x3 x4 x5 x6 x7 wx
  have h2 := fun wx => validHeap_exact y0 y1 y2 y3 y4 y5 y6 y7 wx
  rw [h1x] at h1
  rw [h1y] at h2
  have H1 := Lib.hid h1
  have H2 := Lib.hid h2
  have H3 := Lib.hid fun wx => validHeap_exact (x0 + y0) (x1 + y1) (x2 + y2) (x3 + y3) (x4 + y4) (x5 + y5) (x6 + y6) (x7 + y7) wx
  clear h1 h2 h1x h1y
  generalize hok : okH (z8 (x0 + y0) (x1 + y1) (x2 + y2) (x3 + y3) (x4 + y4) (x5 + y5) (x6 + y6) (x7 + y7)) = ok at *
  clear hok
  go_enter Try.func12, Try.ntmps12
  go_wp2_with fail
  refine (H1.out _).mono ?_
  rintro e w1 ⟨rfl, rfl⟩
  go_wp2_with fail
  refine (H2.out _).mono ?_
  rintro e w1 ⟨rfl, rfl⟩
  go_wp2_with fail
  refine (hp.out _).mono ?_
  rintro e w1 ⟨rfl, rfl⟩
  go_wp2_with fail
  refine (H3.out _).mono ?_
  rintro e w1 ⟨rfl, rfl⟩
  cases ok with
  | false =>
    go_wp2
    go_returns
    exact ⟨rfl, by go_grown⟩
  | true =>
    go_wp2
    go_returns
    exact ⟨rfl, by go_grown⟩
end Go.Proofs.Ytekejhnhkifcfaa
