/-
  No statement is proved here: places that are valid, as both texts tell it; no condition.
-/
import Derived.Test.YtphinokacggnfaaPlaceL
import Derived.Test.YtphinokacggnfaaIn
namespace Go.Proofs.Ytphinokacggnfaa
open Go.ChangeShapes Go.WideShapes Go.ChangeAt Go.RowKit

def okP (f : Nat → Int) : Bool := inB (f 0) 0 1000000 && (inB (f 1) 0 1000000 && (inB (f 2) 0 1000000 && (inB (f 3) 0 1000000 && inB (f 4) 0 1000000)))
theorem okP_in {f : Nat → Int} (h : okP f = true) : ∀ j, j < 5 → 0 ≤ f j ∧ f j ≤ 1000000 := by
  unfold okP at h
  simp only [Bool.and_eq_true] at h
  obtain ⟨h0, h1, h2, h3, h4⟩ := h
  intro j hj
  have : j = 0 ∨ j = 1 ∨ j = 2 ∨ j = 3 ∨ j = 4 := by omega
  rcases this with rfl | rfl | rfl | rfl | rfl
  · exact inB_of h0
  · exact inB_of h1
  · exact inB_of h2
  · exact inB_of h3
  · exact inB_of h4
theorem much_any (n : Int) (w : World) : Calls Try.prog 53 #[.int .i64 n] w fun e w' => e = .returned (.bool (inB n 0 1000000)) ∧ w = w' := by
  have H := Lib.hid fun wx => in_any n 0 1000000 wx
  go_enter Try.func53, Try.ntmps53
  go_wp2_with fail
  refine (H.out _).mono ?_
  rintro e w2 ⟨rfl, rfl⟩
  go_wp2
  go_ret
  exact ⟨rfl, rfl⟩
def okv (x0 x1 x2 x3 x4 : Int) : Bool := inB x0 0 1000000 && (inB x1 0 1000000 && (inB x2 0 1000000 && (inB x3 0 1000000 && inB x4 0 1000000)))
theorem okv_0 {x0 x1 x2 x3 x4 : Int} (h : inB x0 0 1000000 = false) : okv x0 x1 x2 x3 x4 = false := by simp [okv, h]
theorem okv_1 {x0 x1 x2 x3 x4 : Int} (h : inB x1 0 1000000 = false) : okv x0 x1 x2 x3 x4 = false := by simp [okv, h]
theorem okv_2 {x0 x1 x2 x3 x4 : Int} (h : inB x2 0 1000000 = false) : okv x0 x1 x2 x3 x4 = false := by simp [okv, h]
theorem okv_3 {x0 x1 x2 x3 x4 : Int} (h : inB x3 0 1000000 = false) : okv x0 x1 x2 x3 x4 = false := by simp [okv, h]
theorem okv_4 {x0 x1 x2 x3 x4 : Int} (h : inB x4 0 1000000 = false) : okv x0 x1 x2 x3 x4 = false := by simp [okv, h]
set_option maxRecDepth 100000 in
set_option maxHeartbeats 8000000 in
theorem areValid0 (x0 x1 x2 x3 x4 : Int) (w : World) : Calls Try.prog 49 #[.agg #[.int .i32 x0, .int .i32 x1, .int .i32 x2, .int .i32 x3, .int .i32 x4]] w fun e w' => e = .returned (.bool (okv x0 x1 x2 x3 x4)) ∧ Below w.heap.size w w' := by
  have i0 : ∀ wx : World, (Instr.index 31 (.agg #[.int .i32 x0, .int .i32 x1, .int .i32 x2, .int .i32 x3, .int .i32 x4]) (.int .i64 0)).run Try.prog wx = .ok (.int .i32 x0) wx := fun _ => by kernel_rfl
  have i1 : ∀ wx : World, (Instr.index 31 (.agg #[.int .i32 x0, .int .i32 x1, .int .i32 x2, .int .i32 x3, .int .i32 x4]) (.int .i64 1)).run Try.prog wx = .ok (.int .i32 x1) wx := fun _ => by kernel_rfl
  have i2 : ∀ wx : World, (Instr.index 31 (.agg #[.int .i32 x0, .int .i32 x1, .int .i32 x2, .int .i32 x3, .int .i32 x4]) (.int .i64 2)).run Try.prog wx = .ok (.int .i32 x2) wx := fun _ => by kernel_rfl
  have i3 : ∀ wx : World, (Instr.index 31 (.agg #[.int .i32 x0, .int .i32 x1, .int .i32 x2, .int .i32 x3, .int .i32 x4]) (.int .i64 3)).run Try.prog wx = .ok (.int .i32 x3) wx := fun _ => by kernel_rfl
  have i4 : ∀ wx : World, (Instr.index 31 (.agg #[.int .i32 x0, .int .i32 x1, .int .i32 x2, .int .i32 x3, .int .i32 x4]) (.int .i64 4)).run Try.prog wx = .ok (.int .i32 x4) wx := fun _ => by kernel_rfl
  by_cases a0 : x0 < 0
  · rw [okv_0 (inB_mkno (.inl a0))]
    go_enter Try.func49, Try.ntmps49
    go_wp2
    refine wp_loop_rounds 6 ?_
    rw [rounds_succ]
    go_wp2
    go_ret
    exact ⟨rfl, by go_grown⟩
  · by_cases b0 : 1000000 < x0
    · rw [okv_0 (inB_mkno (.inr b0))]
      go_enter Try.func49, Try.ntmps49
      go_wp2
      refine wp_loop_rounds 6 ?_
      rw [rounds_succ]
      go_wp2
      go_ret
      exact ⟨rfl, by go_grown⟩
    · skip
      by_cases a1 : x1 < 0
      · rw [okv_1 (inB_mkno (.inl a1))]
        go_enter Try.func49, Try.ntmps49
        go_wp2
        refine wp_loop_rounds 6 ?_
        rw [rounds_succ]
        go_wp2
        rw [rounds_succ]
        go_wp2
        go_ret
        exact ⟨rfl, by go_grown⟩
      · by_cases b1 : 1000000 < x1
        · rw [okv_1 (inB_mkno (.inr b1))]
          go_enter Try.func49, Try.ntmps49
          go_wp2
          refine wp_loop_rounds 6 ?_
          rw [rounds_succ]
          go_wp2
          rw [rounds_succ]
          go_wp2
          go_ret
          exact ⟨rfl, by go_grown⟩
        · skip
          by_cases a2 : x2 < 0
          · rw [okv_2 (inB_mkno (.inl a2))]
            go_enter Try.func49, Try.ntmps49
            go_wp2
            refine wp_loop_rounds 6 ?_
            rw [rounds_succ]
            go_wp2
            rw [rounds_succ]
            go_wp2
            rw [rounds_succ]
            go_wp2
            go_ret
            exact ⟨rfl, by go_grown⟩
          · by_cases b2 : 1000000 < x2
            · rw [okv_2 (inB_mkno (.inr b2))]
              go_enter Try.func49, Try.ntmps49
              go_wp2
              refine wp_loop_rounds 6 ?_
              rw [rounds_succ]
              go_wp2
              rw [rounds_succ]
              go_wp2
              rw [rounds_succ]
              go_wp2
              go_ret
              exact ⟨rfl, by go_grown⟩
            · skip
              by_cases a3 : x3 < 0
              · rw [okv_3 (inB_mkno (.inl a3))]
                go_enter Try.func49, Try.ntmps49
                go_wp2
                refine wp_loop_rounds 6 ?_
                rw [rounds_succ]
                go_wp2
                rw [rounds_succ]
                go_wp2
                rw [rounds_succ]
                go_wp2
                rw [rounds_succ]
                go_wp2
                go_ret
                exact ⟨rfl, by go_grown⟩
              · by_cases b3 : 1000000 < x3
                · rw [okv_3 (inB_mkno (.inr b3))]
                  go_enter Try.func49, Try.ntmps49
                  go_wp2
                  refine wp_loop_rounds 6 ?_
                  rw [rounds_succ]
                  go_wp2
                  rw [rounds_succ]
                  go_wp2
                  rw [rounds_succ]
                  go_wp2
                  rw [rounds_succ]
                  go_wp2
                  go_ret
                  exact ⟨rfl, by go_grown⟩
                · skip
                  by_cases a4 : x4 < 0
                  · rw [okv_4 (inB_mkno (.inl a4))]
                    go_enter Try.func49, Try.ntmps49
                    go_wp2
                    refine wp_loop_rounds 6 ?_
                    rw [rounds_succ]
                    go_wp2
                    rw [rounds_succ]
                    go_wp2
                    rw [rounds_succ]
                    go_wp2
                    rw [rounds_succ]
                    go_wp2
                    rw [rounds_succ]
                    go_wp2
                    go_ret
                    exact ⟨rfl, by go_grown⟩
                  · by_cases b4 : 1000000 < x4
                    · rw [okv_4 (inB_mkno (.inr b4))]
                      go_enter Try.func49, Try.ntmps49
                      go_wp2
                      refine wp_loop_rounds 6 ?_
                      rw [rounds_succ]
                      go_wp2
                      rw [rounds_succ]
                      go_wp2
                      rw [rounds_succ]
                      go_wp2
                      rw [rounds_succ]
                      go_wp2
                      rw [rounds_succ]
                      go_wp2
                      go_ret
                      exact ⟨rfl, by go_grown⟩
                    · skip
                      unfold okv
                      simp only [inB_mk (And.intro (Int.not_lt.1 a0) (Int.not_lt.1 b0)), inB_mk (And.intro (Int.not_lt.1 a1) (Int.not_lt.1 b1)), inB_mk (And.intro (Int.not_lt.1 a2) (Int.not_lt.1 b2)), inB_mk (And.intro (Int.not_lt.1 a3) (Int.not_lt.1 b3)), inB_mk (And.intro (Int.not_lt.1 a4) (Int.not_lt.1 b4)), Bool.and_self]
                      go_enter Try.func49, Try.ntmps49
                      go_wp2
                      refine wp_loop_rounds 6 ?_
                      rw [rounds_succ]
                      go_wp2
                      rw [rounds_succ]
                      go_wp2
                      rw [rounds_succ]
                      go_wp2
                      rw [rounds_succ]
                      go_wp2
                      rw [rounds_succ]
                      go_wp2
                      rw [rounds_succ]
                      go_wp2
                      go_ret
                      exact ⟨rfl, by go_grown⟩
theorem areValid_any (f : Nat → Int) (w : World) : Calls Try.prog 49 #[pval f] w fun e w' => e = .returned (.bool (okP f)) ∧ Below w.heap.size w w' := areValid0 (f 0) (f 1) (f 2) (f 3) (f 4) w
set_option linter.unusedSimpArgs false in
set_option maxRecDepth 100000 in
set_option maxHeartbeats 8000000 in
theorem l07Places_any (B : Nat) (f : Nat → Int) (w : World) (h : PlAt w B f) (hr : ∀ j, j < 5 → -2147483648 ≤ f j ∧ f j ≤ 2147483647) : Calls Try.prog 47 #[.pointer (some ⟨B, 0, none⟩)] w fun e w' => e = .returned (.bool (okP f)) ∧ w = w' := by
  have hr0 : okP f = (inB (f 0) 0 1000000 && (inB (f 1) 0 1000000 && (inB (f 2) 0 1000000 && (inB (f 3) 0 1000000 && inB (f 4) 0 1000000)))) := rfl
  rw [hr0]
  clear hr0
  have c0 := h 0 (by omega)
  have c1 := h 1 (by omega)
  have c2 := h 2 (by omega)
  have c3 := h 3 (by omega)
  have c4 := h 4 (by omega)
  have r0 := hr 0 (by omega)
  have r1 := hr 1 (by omega)
  have r2 := hr 2 (by omega)
  have r3 := hr 3 (by omega)
  have r4 := hr 4 (by omega)
  generalize f 0 = x0 at *
  generalize f 1 = x1 at *
  generalize f 2 = x2 at *
  generalize f 3 = x3 at *
  generalize f 4 = x4 at *
  have H0 := Lib.hid fun wx => much_any x0 wx
  have H1 := Lib.hid fun wx => much_any x1 wx
  have H2 := Lib.hid fun wx => much_any x2 wx
  have H3 := Lib.hid fun wx => much_any x3 wx
  have H4 := Lib.hid fun wx => much_any x4 wx
  clear h hr
  cases hi0 : inB x0 0 1000000 with
  | false =>
    rw [hi0] at H0
    simp only [hi0, Bool.false_and, Bool.and_false]
    go_enter Try.func47, Try.ntmps47
    go_wp2
    refine wp_loop_rounds 6 ?_
    rw [rounds_succ]
    go_wp2_with fail
    refine (H0.out _).mono ?_
    rintro e w2 ⟨rfl, rfl⟩
    go_wp2_with fail
    go_ret
    exact ⟨rfl, rfl⟩
  | true =>
    rw [hi0] at H0
    cases hi1 : inB x1 0 1000000 with
    | false =>
      rw [hi1] at H1
      simp only [hi1, Bool.false_and, Bool.and_false]
      go_enter Try.func47, Try.ntmps47
      go_wp2
      refine wp_loop_rounds 6 ?_
      rw [rounds_succ]
      go_wp2_with fail
      refine (H0.out _).mono ?_
      rintro e w2 ⟨rfl, rfl⟩
      go_wp2_with fail
      rw [rounds_succ]
      go_wp2_with fail
      refine (H1.out _).mono ?_
      rintro e w2 ⟨rfl, rfl⟩
      go_wp2_with fail
      go_ret
      exact ⟨rfl, rfl⟩
    | true =>
      rw [hi1] at H1
      cases hi2 : inB x2 0 1000000 with
      | false =>
        rw [hi2] at H2
        simp only [hi2, Bool.false_and, Bool.and_false]
        go_enter Try.func47, Try.ntmps47
        go_wp2
        refine wp_loop_rounds 6 ?_
        rw [rounds_succ]
        go_wp2_with fail
        refine (H0.out _).mono ?_
        rintro e w2 ⟨rfl, rfl⟩
        go_wp2_with fail
        rw [rounds_succ]
        go_wp2_with fail
        refine (H1.out _).mono ?_
        rintro e w2 ⟨rfl, rfl⟩
        go_wp2_with fail
        rw [rounds_succ]
        go_wp2_with fail
        refine (H2.out _).mono ?_
        rintro e w2 ⟨rfl, rfl⟩
        go_wp2_with fail
        go_ret
        exact ⟨rfl, rfl⟩
      | true =>
        rw [hi2] at H2
        cases hi3 : inB x3 0 1000000 with
        | false =>
          rw [hi3] at H3
          simp only [hi3, Bool.false_and, Bool.and_false]
          go_enter Try.func47, Try.ntmps47
          go_wp2
          refine wp_loop_rounds 6 ?_
          rw [rounds_succ]
          go_wp2_with fail
          refine (H0.out _).mono ?_
          rintro e w2 ⟨rfl, rfl⟩
          go_wp2_with fail
          rw [rounds_succ]
          go_wp2_with fail
          refine (H1.out _).mono ?_
          rintro e w2 ⟨rfl, rfl⟩
          go_wp2_with fail
          rw [rounds_succ]
          go_wp2_with fail
          refine (H2.out _).mono ?_
          rintro e w2 ⟨rfl, rfl⟩
          go_wp2_with fail
          rw [rounds_succ]
          go_wp2_with fail
          refine (H3.out _).mono ?_
          rintro e w2 ⟨rfl, rfl⟩
          go_wp2_with fail
          go_ret
          exact ⟨rfl, rfl⟩
        | true =>
          rw [hi3] at H3
          cases hi4 : inB x4 0 1000000 with
          | false =>
            rw [hi4] at H4
            simp only [hi4, Bool.false_and, Bool.and_false]
            go_enter Try.func47, Try.ntmps47
            go_wp2
            refine wp_loop_rounds 6 ?_
            rw [rounds_succ]
            go_wp2_with fail
            refine (H0.out _).mono ?_
            rintro e w2 ⟨rfl, rfl⟩
            go_wp2_with fail
            rw [rounds_succ]
            go_wp2_with fail
            refine (H1.out _).mono ?_
            rintro e w2 ⟨rfl, rfl⟩
            go_wp2_with fail
            rw [rounds_succ]
            go_wp2_with fail
            refine (H2.out _).mono ?_
            rintro e w2 ⟨rfl, rfl⟩
            go_wp2_with fail
            rw [rounds_succ]
            go_wp2_with fail
            refine (H3.out _).mono ?_
            rintro e w2 ⟨rfl, rfl⟩
            go_wp2_with fail
            rw [rounds_succ]
            go_wp2_with fail
            refine (H4.out _).mono ?_
            rintro e w2 ⟨rfl, rfl⟩
            go_wp2_with fail
            go_ret
            exact ⟨rfl, rfl⟩
          | true =>
            rw [hi4] at H4
            simp only [hi0, hi1, hi2, hi3, hi4, Bool.and_self]
            go_enter Try.func47, Try.ntmps47
            go_wp2
            refine wp_loop_rounds 6 ?_
            rw [rounds_succ]
            go_wp2_with fail
            refine (H0.out _).mono ?_
            rintro e w2 ⟨rfl, rfl⟩
            go_wp2_with fail
            rw [rounds_succ]
            go_wp2_with fail
            refine (H1.out _).mono ?_
            rintro e w2 ⟨rfl, rfl⟩
            go_wp2_with fail
            rw [rounds_succ]
            go_wp2_with fail
            refine (H2.out _).mono ?_
            rintro e w2 ⟨rfl, rfl⟩
            go_wp2_with fail
            rw [rounds_succ]
            go_wp2_with fail
            refine (H3.out _).mono ?_
            rintro e w2 ⟨rfl, rfl⟩
            go_wp2_with fail
            rw [rounds_succ]
            go_wp2_with fail
            refine (H4.out _).mono ?_
            rintro e w2 ⟨rfl, rfl⟩
            go_wp2_with fail
            rw [rounds_succ]
            go_wp2
            go_ret
            exact ⟨rfl, rfl⟩
end Go.Proofs.Ytphinokacggnfaa
