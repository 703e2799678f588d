/-
  No statement is proved here: what SortOut of both packages returns; no condition but that the numbers are int32s and int64s.
-/
import Derived.Test.YthokpdhknohpoaaJoin
namespace Go.Proofs.Ythokpdhknohpoaa
open Go.RowKit

/-- The code of a heap, and whether numbers are as told. -/
def askC (ok fine : Bool) : Int := if ok = true then (if fine = true then 0 else 2) else 1

set_option maxHeartbeats 400000 in
theorem asked_any (z : Nat → Int) (b off : Nat) (fine : Bool) (w : World) (hH : HeapAt w b off z) (hz : bd32 z) :
    Calls Try.prog 62 #[.pointer (some ⟨b, off, none⟩), .bool fine] w fun e w' => e = .returned (.int .i64 (askC (okH z) fine)) ∧ w = w' := by
  have hc := Lib.hid (l01Heap_any z b off w hH hz)
  clear hH hz
  generalize okH z = ok at *
  cases ok with
  | false =>
    go_enter Try.func62, Try.ntmps62
    go_wp2_with fail
    refine hc.out.mono ?_
    rintro e w' ⟨rfl, rfl⟩
    go_wp2
    go_ret
    exact ⟨rfl, rfl⟩
  | true =>
    cases fine with
    | false =>
      go_enter Try.func62, Try.ntmps62
      go_wp2_with fail
      refine hc.out.mono ?_
      rintro e w' ⟨rfl, rfl⟩
      go_wp2
      go_ret
      exact ⟨rfl, rfl⟩
    | true =>
      go_enter Try.func62, Try.ntmps62
      go_wp2_with fail
      refine hc.out.mono ?_
      rintro e w' ⟨rfl, rfl⟩
      go_wp2
      go_ret
      exact ⟨rfl, rfl⟩

def inH (low high i x : Int) : Int := if low ≤ i ∧ i ≤ high then x else 0
def outH (low high i x : Int) : Int := if low ≤ i ∧ i ≤ high then 0 else x
/-- Are both lengths as told? -/
def fineS (low high : Int) : Bool := inB low 0 7 && inB high 0 7 && decide (low ≤ high)

set_option maxHeartbeats 1000000 in
theorem specSort_no (x0 x1 x2 x3 x4 x5 x6 x7 low high c : Int) (hb : bd32 (z8 x0 x1 x2 x3 x4 x5 x6 x7)) (hc : askC (okH (z8 x0 x1 x2 x3 x4 x5 x6 x7)) (fineS low high) = c) (h0 : c ≠ 0) (w : World) :
    Calls Try.prog 32 #[.agg #[.int .i32 x0, .int .i32 x1, .int .i32 x2, .int .i32 x3, .int .i32 x4, .int .i32 x5, .int .i32 x6, .int .i32 x7], .int .i64 low, .int .i64 high] w fun e w' => e = .returned (.tuple #[.agg #[.int .i32 0, .int .i32 0, .int .i32 0, .int .i32 0, .int .i32 0, .int .i32 0, .int .i32 0, .int .i32 0], .agg #[.int .i32 0, .int .i32 0, .int .i32 0, .int .i32 0, .int .i32 0, .int .i32 0, .int .i32 0, .int .i32 0], .int .i64 c]) ∧ Below w.heap.size w w' := by
  have ha := fun fine => asked_any (z8 x0 x1 x2 x3 x4 x5 x6 x7) w.heap.size 0 fine _ (heapAt3 w x0 x1 x2 x3 x4 x5 x6 x7 35 (.cells #[.int .i32 0, .int .i32 0, .int .i32 0, .int .i32 0, .int .i32 0, .int .i32 0, .int .i32 0, .int .i32 0] 35) (.cells #[.int .i32 0, .int .i32 0, .int .i32 0, .int .i32 0, .int .i32 0, .int .i32 0, .int .i32 0, .int .i32 0] 35)) hb
  clear hb
  have hne : (c != 0) = true := by rw [bne_iff_ne]; exact h0
  clear h0
  generalize okH (z8 x0 x1 x2 x3 x4 x5 x6 x7) = ok at *
  cases h1 : inB low 0 7 with
  | false =>
    have e0 : fineS low high = false := by simp [fineS, h1]
    rw [e0] at hc
    have ha := ha false
    rw [hc] at ha
    clear hc e0
    have HA := Lib.hid ha
    clear ha
    go_enter Try.func32, Try.ntmps32
    go_wp2_with fail
    refine (in_any _ _ _ _).mono ?_
    rintro e w' ⟨rfl, rfl⟩
    rw [h1]
    go_wp2_with fail
    refine HA.out.mono ?_
    rintro e w' ⟨rfl, rfl⟩
    go_wp2
    go_returns
    exact ⟨rfl, by go_grown⟩
  | true =>
    cases h2 : inB high 0 7 with
    | false =>
      have e0 : fineS low high = false := by simp [fineS, h2]
      rw [e0] at hc
      have ha := ha false
      rw [hc] at ha
      clear hc e0
      have HA := Lib.hid ha
      clear ha
      go_enter Try.func32, Try.ntmps32
      go_wp2_with fail
      refine (in_any _ _ _ _).mono ?_
      rintro e w' ⟨rfl, rfl⟩
      rw [h1]
      go_wp2_with fail
      refine (in_any _ _ _ _).mono ?_
      rintro e w' ⟨rfl, rfl⟩
      rw [h2]
      go_wp2_with fail
      refine HA.out.mono ?_
      rintro e w' ⟨rfl, rfl⟩
      go_wp2
      go_returns
      exact ⟨rfl, by go_grown⟩
    | true =>
      have e0 : fineS low high = decide (low ≤ high) := by simp [fineS, h1, h2]
      rw [e0] at hc
      have ha := ha (decide (low ≤ high))
      rw [hc] at ha
      clear hc e0
      by_cases h3 : low ≤ high
      · rw [decide_eq_true h3] at ha
        have HA := Lib.hid ha
        clear ha
        go_enter Try.func32, Try.ntmps32
        go_wp2_with fail
        refine (in_any _ _ _ _).mono ?_
        rintro e w' ⟨rfl, rfl⟩
        rw [h1]
        go_wp2_with fail
        refine (in_any _ _ _ _).mono ?_
        rintro e w' ⟨rfl, rfl⟩
        rw [h2]
        go_wp2_with fail
        refine HA.out.mono ?_
        rintro e w' ⟨rfl, rfl⟩
        go_wp2
        go_returns
        exact ⟨rfl, by go_grown⟩
      · rw [decide_eq_false h3] at ha
        have hd3 : decide (low ≤ high) = false := decide_eq_false h3
        have HA := Lib.hid ha
        clear ha
        go_enter Try.func32, Try.ntmps32
        go_wp2_with fail
        refine (in_any _ _ _ _).mono ?_
        rintro e w' ⟨rfl, rfl⟩
        rw [h1]
        go_wp2_with fail
        refine (in_any _ _ _ _).mono ?_
        rintro e w' ⟨rfl, rfl⟩
        rw [h2]
        go_wp2_with fail
        refine HA.out.mono ?_
        rintro e w' ⟨rfl, rfl⟩
        go_wp2
        go_returns
        exact ⟨rfl, by go_grown⟩

set_option maxHeartbeats 1000000 in
theorem implSort_no (x0 x1 x2 x3 x4 x5 x6 x7 low high c : Int) (hc : askC (okH (z8 x0 x1 x2 x3 x4 x5 x6 x7)) (fineS low high) = c) (h0 : c ≠ 0) (w : World) :
    Calls Try.prog 33 #[.agg #[.int .i32 x0, .int .i32 x1, .int .i32 x2, .int .i32 x3, .int .i32 x4, .int .i32 x5, .int .i32 x6, .int .i32 x7], .int .i64 low, .int .i64 high] w fun e w' => e = .returned (.tuple #[.agg #[.int .i32 0, .int .i32 0, .int .i32 0, .int .i32 0, .int .i32 0, .int .i32 0, .int .i32 0, .int .i32 0], .agg #[.int .i32 0, .int .i32 0, .int .i32 0, .int .i32 0, .int .i32 0, .int .i32 0, .int .i32 0, .int .i32 0], .int .i64 c]) ∧ Below w.heap.size w w' := by
  have hv := fun wx => validHeap_exact x0 x1 x2 x3 x4 x5 x6 x7 wx
  generalize okH (z8 x0 x1 x2 x3 x4 x5 x6 x7) = ok at *
  cases ok with
  | false =>
    have hc1 : (1 : Int) = c := by rw [← hc]; rfl
    subst hc1
    clear hc h0
    have HV := Lib.hid hv
    clear hv
    go_enter Try.func33, Try.ntmps33
    go_wp2_with fail
    refine (HV.out _).mono ?_
    rintro e w' ⟨rfl, rfl⟩
    go_wp2
    go_returns
    exact ⟨rfl, by go_grown⟩
  | true =>
    have HV := Lib.hid hv
    clear hv
    cases hf : fineS low high with
    | true =>
      rw [hf] at hc
      exact absurd hc.symm h0
    | false =>
      rw [hf] at hc
      have hc1 : (2 : Int) = c := by rw [← hc]; rfl
      subst hc1
      clear hc h0
      have hn : low < 0 ∨ 8 ≤ high ∨ high < low := by
        unfold fineS at hf
        by_cases q1 : inB low 0 7 = true
        · by_cases q2 : inB high 0 7 = true
          · rw [q1, q2] at hf
            simp at hf
            exact .inr (.inr hf)
          · have := inB_no (by simpa using q2)
            have := inB_of q1
            omega
        · have := inB_no (by simpa using q1)
          omega
      clear hf
      by_cases p1 : low < 0
      · go_enter Try.func33, Try.ntmps33
        go_wp2_with fail
        refine (HV.out _).mono ?_
        rintro e w' ⟨rfl, rfl⟩
        go_wp2
        go_returns
        exact ⟨rfl, by go_grown⟩
      · by_cases p2 : 8 ≤ high
        · go_enter Try.func33, Try.ntmps33
          go_wp2_with fail
          refine (HV.out _).mono ?_
          rintro e w' ⟨rfl, rfl⟩
          go_wp2
          go_returns
          exact ⟨rfl, by go_grown⟩
        · have p3 : high < low := by omega
          clear hn
          go_enter Try.func33, Try.ntmps33
          go_wp2_with fail
          refine (HV.out _).mono ?_
          rintro e w' ⟨rfl, rfl⟩
          go_wp2
          go_returns
          exact ⟨rfl, by go_grown⟩

set_option maxHeartbeats 4000000 in
theorem specSort_at7 (x0 x1 x2 x3 x4 x5 x6 x7 : Int) (hb : bd32 (z8 x0 x1 x2 x3 x4 x5 x6 x7)) (hok : okH (z8 x0 x1 x2 x3 x4 x5 x6 x7) = true) (w : World) (high : Int) (hh : high = 7) (low : Int) (hl : low = 6) :
    Calls Try.prog 32 #[.agg #[.int .i32 x0, .int .i32 x1, .int .i32 x2, .int .i32 x3, .int .i32 x4, .int .i32 x5, .int .i32 x6, .int .i32 x7], .int .i64 low, .int .i64 high] w fun e w' => e = .returned (.tuple #[.agg #[.int .i32 (inH low high 0 x0), .int .i32 (inH low high 1 x1), .int .i32 (inH low high 2 x2), .int .i32 (inH low high 3 x3), .int .i32 (inH low high 4 x4), .int .i32 (inH low high 5 x5), .int .i32 (inH low high 6 x6), .int .i32 (inH low high 7 x7)], .agg #[.int .i32 (outH low high 0 x0), .int .i32 (outH low high 1 x1), .int .i32 (outH low high 2 x2), .int .i32 (outH low high 3 x3), .int .i32 (outH low high 4 x4), .int .i32 (outH low high 5 x5), .int .i32 (outH low high 6 x6), .int .i32 (outH low high 7 x7)], .int .i64 0]) ∧ Below w.heap.size w w' := by
  have ha := asked_any (z8 x0 x1 x2 x3 x4 x5 x6 x7) w.heap.size 0 true _ (heapAt3 w x0 x1 x2 x3 x4 x5 x6 x7 35 (.cells #[.int .i32 0, .int .i32 0, .int .i32 0, .int .i32 0, .int .i32 0, .int .i32 0, .int .i32 0, .int .i32 0] 35) (.cells #[.int .i32 0, .int .i32 0, .int .i32 0, .int .i32 0, .int .i32 0, .int .i32 0, .int .i32 0, .int .i32 0] 35)) hb
  rw [hok] at ha
  have HA := Lib.hid ha
  clear ha hok hb
  subst hh hl
  go_enter Try.func32, Try.ntmps32
  go_wp2_with (first | (go_at_call 62; refine HA.out.mono ?_; rintro e w' ⟨rfl, rfl⟩) | (go_at_call 61; go_in))
  go_rounds 9
  go_region
  all_goals
    go_wp2
    go_returns
    exact ⟨by simp [inH, outH], by go_grown⟩
end Go.Proofs.Ythokpdhknohpoaa
