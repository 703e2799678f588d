/-
  No statement is proved here: what the functions on heaps (8 numbers of int32) return; no condition but that they are int32s.
-/
import Derived.Test.YtekejhnhkifcfaaGcd
namespace Go.Proofs.Ytekejhnhkifcfaa
open Go.RowKit

set_option maxHeartbeats 1000000 in
theorem toHeap_any (x0 x1 x2 x3 x4 x5 x6 x7 : Int) (w : World) : Calls Try.prog 11 #[.agg #[.int .i32 x0, .int .i32 x1, .int .i32 x2, .int .i32 x3, .int .i32 x4, .int .i32 x5, .int .i32 x6, .int .i32 x7]] w fun e w' => e = .returned (.agg #[.int .i32 x0, .int .i32 x1, .int .i32 x2, .int .i32 x3, .int .i32 x4, .int .i32 x5, .int .i32 x6, .int .i32 x7]) ∧ Below w.heap.size w w' := by
  go_enter Try.func11, Try.ntmps11
  go_wp2
  go_rounds 9
  go_returns
  exact ⟨rfl, by go_grown⟩

/-- Are the numbers of a heap in order? -/
def okH (z : Nat → Int) : Bool := decide (∀ k : Nat, k < 8 → 0 ≤ z k ∧ z k ≤ 1000)
theorem okH_of {z : Nat → Int} (h : okH z = true) : ∀ k : Nat, k < 8 → 0 ≤ z k ∧ z k ≤ 1000 := of_decide_eq_true h
theorem okH_mk {z : Nat → Int} (h : ∀ k : Nat, k < 8 → 0 ≤ z k ∧ z k ≤ 1000) : okH z = true := decide_eq_true h
theorem okH_no {z : Nat → Int} (k : Nat) (hk : k < 8) (h : z k < 0 ∨ 1000 < z k) : okH z = false := by
  refine decide_eq_false fun hh => ?_
  have := hh k hk
  omega

/-- The cells of a heap that lies in memory. -/
def HeapAt (w : World) (b off : Nat) (z : Nat → Int) : Prop := ∀ k : Nat, k < 8 → w.cell? ⟨b, off + k, none⟩ = some (.int .i32 (z k))
def bd32 (z : Nat → Int) : Prop := ∀ k : Nat, -2147483648 ≤ z k ∧ z k ≤ 2147483647

theorem l01Heap_any (z : Nat → Int) (b off : Nat) (w : World) (hH : HeapAt w b off z) (hz : bd32 z) :
    Calls Try.prog 33 #[.pointer (some ⟨b, off, none⟩)] w fun e w' => e = .returned (.bool (okH z)) ∧ w = w' := by
  have HH := Lib.hid hH
  have HZ := Lib.hid hz
  clear hH hz
  go_enter Try.func33, Try.ntmps33
  go_wp2
  go_loop [3] (fun i => ∃ k : Nat, k ≤ 8 ∧ i = .int .i64 k ∧ Hid (∀ j : Nat, j < k → 0 ≤ z j ∧ z j ≤ 1000)) (fun i => 8 - (intOf i).toNat)
  case atStart => exact ⟨0, by omega, rfl, fun j hj => by omega⟩
  case round =>
    obtain ⟨k, hk, rfl, hj⟩ := hrel
    by_cases hlt : k < 8
    · have hc := HH.out k hlt
      have hb := HZ.out k
      by_cases hin : 0 ≤ z k ∧ z k ≤ 1000
      · have hB := inB_mk hin
        go_wp2_with fail
        refine (in_any _ _ _ _).mono ?_
        rintro e w' ⟨rfl, rfl⟩
        rw [hB]
        go_wp2
        go_round
        case rel => exact ⟨k + 1, by omega, by go_num, fun j hj' => by
          by_cases e : j = k
          · rw [e]; exact hin
          · exact hj.out j (by omega)⟩
        case measure => simp [intOf]; omega
      · have hB : inB (z k) 0 1000 = false := inB_mkno (by omega)
        have hno := Lib.hid (okH_no k hlt (by omega : z k < 0 ∨ 1000 < z k))
        go_wp2_with fail
        refine (in_any _ _ _ _).mono ?_
        rintro e w' ⟨rfl, rfl⟩
        rw [hB]
        go_wp2
        go_ret
        exact ⟨ret_bool hno.out.symm, rfl⟩
    · have he : k = 8 := by omega
      subst he
      have hyes := Lib.hid (okH_mk hj.out)
      go_wp2
      go_ret
      exact ⟨ret_bool hyes.out.symm, rfl⟩

/-- Eight numbers as a function. -/
def z8 (x0 x1 x2 x3 x4 x5 x6 x7 : Int) : Nat → Int
  | 0 => x0 | 1 => x1 | 2 => x2 | 3 => x3 | 4 => x4 | 5 => x5 | 6 => x6 | 7 => x7 | _ => 0

theorem ok8_yes {x0 x1 x2 x3 x4 x5 x6 x7 : Int} (h : (0 ≤ x0 ∧ x0 ≤ 1000) ∧ (0 ≤ x1 ∧ x1 ≤ 1000) ∧ (0 ≤ x2 ∧ x2 ≤ 1000) ∧ (0 ≤ x3 ∧ x3 ≤ 1000) ∧ (0 ≤ x4 ∧ x4 ≤ 1000) ∧ (0 ≤ x5 ∧ x5 ≤ 1000) ∧ (0 ≤ x6 ∧ x6 ≤ 1000) ∧ (0 ≤ x7 ∧ x7 ≤ 1000)) : okH (z8 x0 x1 x2 x3 x4 x5 x6 x7) = true := by
  refine okH_mk fun k hk => ?_
  match k, hk with
  | 0, _ => exact h.1
  | 1, _ => exact h.2.1
  | 2, _ => exact h.2.2.1
  | 3, _ => exact h.2.2.2.1
  | 4, _ => exact h.2.2.2.2.1
  | 5, _ => exact h.2.2.2.2.2.1
  | 6, _ => exact h.2.2.2.2.2.2.1
  | 7, _ => exact h.2.2.2.2.2.2.2
  | k + 8, hk => omega
theorem ok8_of {x0 x1 x2 x3 x4 x5 x6 x7 : Int} (h : okH (z8 x0 x1 x2 x3 x4 x5 x6 x7) = true) : (0 ≤ x0 ∧ x0 ≤ 1000) ∧ (0 ≤ x1 ∧ x1 ≤ 1000) ∧ (0 ≤ x2 ∧ x2 ≤ 1000) ∧ (0 ≤ x3 ∧ x3 ≤ 1000) ∧ (0 ≤ x4 ∧ x4 ≤ 1000) ∧ (0 ≤ x5 ∧ x5 ≤ 1000) ∧ (0 ≤ x6 ∧ x6 ≤ 1000) ∧ (0 ≤ x7 ∧ x7 ≤ 1000) := by
  have hh := okH_of h
  exact ⟨hh 0 (by omega), hh 1 (by omega), hh 2 (by omega), hh 3 (by omega), hh 4 (by omega), hh 5 (by omega), hh 6 (by omega), hh 7 (by omega)⟩
theorem ok8_no {x0 x1 x2 x3 x4 x5 x6 x7 : Int} (h : (x0 < 0 ∨ 1000 < x0) ∨ (x1 < 0 ∨ 1000 < x1) ∨ (x2 < 0 ∨ 1000 < x2) ∨ (x3 < 0 ∨ 1000 < x3) ∨ (x4 < 0 ∨ 1000 < x4) ∨ (x5 < 0 ∨ 1000 < x5) ∨ (x6 < 0 ∨ 1000 < x6) ∨ (x7 < 0 ∨ 1000 < x7)) : okH (z8 x0 x1 x2 x3 x4 x5 x6 x7) = false := by
  rcases h with h | h | h | h | h | h | h | h
  · exact okH_no 0 (by omega) h
  · exact okH_no 1 (by omega) h
  · exact okH_no 2 (by omega) h
  · exact okH_no 3 (by omega) h
  · exact okH_no 4 (by omega) h
  · exact okH_no 5 (by omega) h
  · exact okH_no 6 (by omega) h
  · exact okH_no 7 (by omega) h

/-- A heap that has just been laid into a block of its own. -/
theorem heapAt_alloc (w : World) (x0 x1 x2 x3 x4 x5 x6 x7 : Int) (t : TypeId) : HeapAt (w.alloc (.cells #[.int .i32 x0, .int .i32 x1, .int .i32 x2, .int .i32 x3, .int .i32 x4, .int .i32 x5, .int .i32 x6, .int .i32 x7] t)) w.heap.size 0 (z8 x0 x1 x2 x3 x4 x5 x6 x7) := by
  intro k hk
  match k, hk with
  | 0, _ => simp [go_sem, z8]
  | 1, _ => simp [go_sem, z8]
  | 2, _ => simp [go_sem, z8]
  | 3, _ => simp [go_sem, z8]
  | 4, _ => simp [go_sem, z8]
  | 5, _ => simp [go_sem, z8]
  | 6, _ => simp [go_sem, z8]
  | 7, _ => simp [go_sem, z8]
  | k + 8, hk => omega
theorem HeapAt.below {w w' : World} {b off B : Nat} {z : Nat → Int} (h : HeapAt w b off z) (hB : Below B w w') (hb : b < B) : HeapAt w' b off z :=
  fun k hk => (hB.cell (p := ⟨b, off + k, none⟩) hb).trans (h k hk)
theorem HeapAt.lt {w : World} {b off : Nat} {z : Nat → Int} (h : HeapAt w b off z) : b < w.heap.size := by
  have h0 := h 0 (by omega)
  by_cases hlt : b < w.heap.size
  · exact hlt
  · have e : w.heap[b]? = none := by simp; omega
    simp [World.cell?, e] at h0
def in32 (n : Int) : Prop := -2147483648 ≤ n ∧ n ≤ 2147483647
theorem bd32_z8 {x0 x1 x2 x3 x4 x5 x6 x7 : Int} (h0 : in32 x0) (h1 : in32 x1) (h2 : in32 x2) (h3 : in32 x3) (h4 : in32 x4) (h5 : in32 x5) (h6 : in32 x6) (h7 : in32 x7) : bd32 (z8 x0 x1 x2 x3 x4 x5 x6 x7) := by
  intro k
  match k with
  | 0 => exact h0
  | 1 => exact h1
  | 2 => exact h2
  | 3 => exact h3
  | 4 => exact h4
  | 5 => exact h5
  | 6 => exact h6
  | 7 => exact h7
  | k + 8 => simp [z8]

set_option maxHeartbeats 1000000 in
theorem validHeap_any (x0 x1 x2 x3 x4 x5 x6 x7 : Int) (w : World) : Calls Try.prog 34 #[.agg #[.int .i32 x0, .int .i32 x1, .int .i32 x2, .int .i32 x3, .int .i32 x4, .int .i32 x5, .int .i32 x6, .int .i32 x7]] w fun e w' => e = .returned (.bool (okH (z8 x0 x1 x2 x3 x4 x5 x6 x7))) ∧ Below w.heap.size w w' := by
  obtain ⟨ok, hok⟩ : ∃ ok, ok = okH (z8 x0 x1 x2 x3 x4 x5 x6 x7) := ⟨_, rfl⟩
  rw [← hok]
  have HK := Lib.hid hok
  clear hok
  have i0 : ∀ w : World, (Instr.index 23 (.agg #[.int .i32 x0, .int .i32 x1, .int .i32 x2, .int .i32 x3, .int .i32 x4, .int .i32 x5, .int .i32 x6, .int .i32 x7]) (.int .i64 0)).run Try.prog w = .ok (.int .i32 x0) w := fun _ => by kernel_rfl
  have i1 : ∀ w : World, (Instr.index 23 (.agg #[.int .i32 x0, .int .i32 x1, .int .i32 x2, .int .i32 x3, .int .i32 x4, .int .i32 x5, .int .i32 x6, .int .i32 x7]) (.int .i64 1)).run Try.prog w = .ok (.int .i32 x1) w := fun _ => by kernel_rfl
  have i2 : ∀ w : World, (Instr.index 23 (.agg #[.int .i32 x0, .int .i32 x1, .int .i32 x2, .int .i32 x3, .int .i32 x4, .int .i32 x5, .int .i32 x6, .int .i32 x7]) (.int .i64 2)).run Try.prog w = .ok (.int .i32 x2) w := fun _ => by kernel_rfl
  have i3 : ∀ w : World, (Instr.index 23 (.agg #[.int .i32 x0, .int .i32 x1, .int .i32 x2, .int .i32 x3, .int .i32 x4, .int .i32 x5, .int .i32 x6, .int .i32 x7]) (.int .i64 3)).run Try.prog w = .ok (.int .i32 x3) w := fun _ => by kernel_rfl
  have i4 : ∀ w : World, (Instr.index 23 (.agg #[.int .i32 x0, .int .i32 x1, .int .i32 x2, .int .i32 x3, .int .i32 x4, .int .i32 x5, .int .i32 x6, .int .i32 x7]) (.int .i64 4)).run Try.prog w = .ok (.int .i32 x4) w := fun _ => by kernel_rfl
  have i5 : ∀ w : World, (Instr.index 23 (.agg #[.int .i32 x0, .int .i32 x1, .int .i32 x2, .int .i32 x3, .int .i32 x4, .int .i32 x5, .int .i32 x6, .int .i32 x7]) (.int .i64 5)).run Try.prog w = .ok (.int .i32 x5) w := fun _ => by kernel_rfl
  have i6 : ∀ w : World, (Instr.index 23 (.agg #[.int .i32 x0, .int .i32 x1, .int .i32 x2, .int .i32 x3, .int .i32 x4, .int .i32 x5, .int .i32 x6, .int .i32 x7]) (.int .i64 6)).run Try.prog w = .ok (.int .i32 x6) w := fun _ => by kernel_rfl
  have i7 : ∀ w : World, (Instr.index 23 (.agg #[.int .i32 x0, .int .i32 x1, .int .i32 x2, .int .i32 x3, .int .i32 x4, .int .i32 x5, .int .i32 x6, .int .i32 x7]) (.int .i64 7)).run Try.prog w = .ok (.int .i32 x7) w := fun _ => by kernel_rfl
  go_enter Try.func34, Try.ntmps34
  go_wp2
  go_rounds 9
  all_goals
    go_ret
    refine ⟨ret_bool ?_, by go_grown⟩
    rw [HK.out]
    first
      | (rw [ok8_yes (by omega)])
      | (rw [ok8_no (by omega)])

end Go.Proofs.Ytekejhnhkifcfaa
