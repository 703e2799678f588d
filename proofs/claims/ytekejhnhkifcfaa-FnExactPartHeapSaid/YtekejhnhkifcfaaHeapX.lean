/-
  No statement is proved here: what toHeap of the laws, ValidHeap and l01Asked return and lay, to the cell; no condition but that the numbers are int32s.
-/
import Derived.Test.YtekejhnhkifcfaaHeap1
namespace Go.Proofs.Ytekejhnhkifcfaa
open Go.RowKit

set_option maxHeartbeats 1000000 in
theorem toHeap_exact (x0 x1 x2 x3 x4 x5 x6 x7 : Int) (w : World) : Calls Try.prog 11 #[.agg #[.int .i32 x0, .int .i32 x1, .int .i32 x2, .int .i32 x3, .int .i32 x4, .int .i32 x5, .int .i32 x6, .int .i32 x7]] w fun e w' => e = .returned (.agg #[.int .i32 x0, .int .i32 x1, .int .i32 x2, .int .i32 x3, .int .i32 x4, .int .i32 x5, .int .i32 x6, .int .i32 x7]) ∧ ((w.alloc (.cells #[.int .i32 x0, .int .i32 x1, .int .i32 x2, .int .i32 x3, .int .i32 x4, .int .i32 x5, .int .i32 x6, .int .i32 x7] 22)).alloc (.cells #[.int .i32 x0, .int .i32 x1, .int .i32 x2, .int .i32 x3, .int .i32 x4, .int .i32 x5, .int .i32 x6, .int .i32 x7] 23)).alloc (.cells #[.int .i32 x0, .int .i32 x1, .int .i32 x2, .int .i32 x3, .int .i32 x4, .int .i32 x5, .int .i32 x6, .int .i32 x7] 23) = w' := by
  go_enter Try.func11, Try.ntmps11
  go_wp2
  go_rounds 9
  go_returns
  exact ⟨rfl, rfl⟩

set_option maxHeartbeats 1000000 in
theorem validHeap_exact (x0 x1 x2 x3 x4 x5 x6 x7 : Int) (w : World) : Calls Try.prog 34 #[.agg #[.int .i32 x0, .int .i32 x1, .int .i32 x2, .int .i32 x3, .int .i32 x4, .int .i32 x5, .int .i32 x6, .int .i32 x7]] w fun e w' => e = .returned (.bool (okH (z8 x0 x1 x2 x3 x4 x5 x6 x7))) ∧ w.alloc (.cells #[.int .i32 x0, .int .i32 x1, .int .i32 x2, .int .i32 x3, .int .i32 x4, .int .i32 x5, .int .i32 x6, .int .i32 x7] 23) = w' := by
  obtain ⟨ok, hok⟩ : ∃ ok, ok = okH (z8 x0 x1 x2 x3 x4 x5 x6 x7) := ⟨_, rfl⟩
  rw [← hok]
  have HK := Lib.hid hok
  clear hok
  have i0 : ∀ w : World, (Instr.index 23 (.agg #[.int .i32 x0, .int .i32 x1, .int .i32 x2, .int .i32 x3, .int .i32 x4, .int .i32 x5, .int .i32 x6, .int .i32 x7]) (.int .i64 0)).run Try.prog w = .ok (.int .i32 x0) w := fun _ => by kernel_rfl
  have i1 : ∀ w : World, (Instr.index 23 (.agg #[.int .i32 x0, .int .i32 x1, .int .i32 x2, .int .i32 x3, .int .i32 x4, .int .i32 x5, .int .i32 x6, .int .i32 x7]) (.int .i64 1)).run Try.prog w = .ok (.int .i32 x1) w := fun _ => by kernel_rfl
  have i2 : ∀ w : World, (Instr.index 23 (.agg #[.int .i32 x0, .int .i32 x1, .int .i32 x2, .int .i32 x3, .int .i32 x4, .int .i32 x5, .int .i32 x6, .int .i32 x7]) (.int .i64 2)).run Try.prog w = .ok (.int .i32 x2) w := fun _ => by kernel_rfl
  have i3 : ∀ w : World, (Instr.index 23 (.agg #[.int .i32 x0, .int .i32 x1, .int .i32 x2, .int .i32 x3, .int .i32 x4, .int .i32 x5, .int .i32 x6, .int .i32 x7]) (.int .i64 3)).run Try.prog w = .ok (.int .i32 x3) w := fun _ => by kernel_rfl
  have i4 : ∀ w : World, (Instr.index 23 (.agg #[.int .i32 x0, .int .i32 x1, .int .i32 x2, .int .i32 x3, .int .i32 x4, .int .i32 x5, .int .i32 x6, .int .i32 x7]) (.int .i64 4)).run Try.prog w = .ok (.int .i32 x4) w := fun _ => by kernel_rfl
  have i5 : ∀ w : World, (Instr.index 23 (.agg #[.int .i32 x0, .int .i32 x1, .int .i32 x2, .int .i32 x3, .int .i32 x4, .int .i32 x5, .int .i32 x6, .int .i32 x7]) (.int .i64 5)).run Try.prog w = .ok (.int .i32 x5) w := fun _ => by kernel_rfl
  have i6 : ∀ w : World, (Instr.index 23 (.agg #[.int .i32 x0, .int .i32 x1, .int .i32 x2, .int .i32 x3, .int .i32 x4, .int .i32 x5, .int .i32 x6, .int .i32 x7]) (.int .i64 6)).run Try.prog w = .ok (.int .i32 x6) w := fun _ => by kernel_rfl
  have i7 : ∀ w : World, (Instr.index 23 (.agg #[.int .i32 x0, .int .i32 x1, .int .i32 x2, .int .i32 x3, .int .i32 x4, .int .i32 x5, .int .i32 x6, .int .i32 x7]) (.int .i64 7)).run Try.prog w = .ok (.int .i32 x7) w := fun _ => by kernel_rfl
  go_enter Try.func34, Try.ntmps34
  go_wp2
  go_rounds 9
  all_goals
    go_ret
    refine ⟨ret_bool ?_, rfl⟩
    rw [HK.out]
    first
      | (rw [ok8_yes (by omega)])
      | (rw [ok8_no (by omega)])


/-- A heap that lies in the first of three new blocks. -/
theorem heapAt3 (w : World) (x0 x1 x2 x3 x4 x5 x6 x7 : Int) (t : TypeId) (o1 o2 : Obj) : HeapAt (((w.alloc (.cells #[.int .i32 x0, .int .i32 x1, .int .i32 x2, .int .i32 x3, .int .i32 x4, .int .i32 x5, .int .i32 x6, .int .i32 x7] t)).alloc o1).alloc o2) w.heap.size 0 (z8 x0 x1 x2 x3 x4 x5 x6 x7) :=
  (heapAt_alloc w x0 x1 x2 x3 x4 x5 x6 x7 t).below (((Below.refl (w.heap.size + 1) _).alloc (by simp) o1).alloc (by simp only [World.size_alloc]; omega) o2) (by omega)
theorem heapAt3b (w : World) (x0 x1 x2 x3 x4 x5 x6 x7 : Int) (t : TypeId) (o0 o2 : Obj) : HeapAt (((w.alloc o0).alloc (.cells #[.int .i32 x0, .int .i32 x1, .int .i32 x2, .int .i32 x3, .int .i32 x4, .int .i32 x5, .int .i32 x6, .int .i32 x7] t)).alloc o2) (w.heap.size + 1) 0 (z8 x0 x1 x2 x3 x4 x5 x6 x7) := by
  have h := heapAt_alloc (w.alloc o0) x0 x1 x2 x3 x4 x5 x6 x7 t
  rw [World.size_alloc] at h
  exact h.below ((Below.refl (w.heap.size + 2) _).alloc (by simp) o2) (by omega)
theorem HeapAt.drewN {w : World} {b off : Nat} {z : Nat → Int} (h : HeapAt w b off z) (n : Nat) : HeapAt (w.drewN n) b off z := h

/-- The code of a heap, and whether numbers are as told. -/
def askC (ok fine : Bool) : Int := if ok = true then (if fine = true then 0 else 2) else 1

set_option maxHeartbeats 400000 in
theorem asked_any (z : Nat → Int) (b off : Nat) (fine : Bool) (w : World) (hH : HeapAt w b off z) (hz : bd32 z) :
    Calls Try.prog 36 #[.pointer (some ⟨b, off, none⟩), .bool fine] w fun e w' => e = .returned (.int .i64 (askC (okH z) fine)) ∧ w = w' := by
  have hc := Lib.hid (l01Heap_any z b off w hH hz)
  clear hH hz
  generalize okH z = ok at *
  cases ok with
  | false =>
    go_enter Try.func36, Try.ntmps36
    go_wp2_with fail
    refine hc.out.mono ?_
    rintro e w' ⟨rfl, rfl⟩
    go_wp2
    go_ret
    exact ⟨rfl, rfl⟩
  | true =>
    cases fine with
    | false =>
      go_enter Try.func36, Try.ntmps36
      go_wp2_with fail
      refine hc.out.mono ?_
      rintro e w' ⟨rfl, rfl⟩
      go_wp2
      go_ret
      exact ⟨rfl, rfl⟩
    | true =>
      go_enter Try.func36, Try.ntmps36
      go_wp2_with fail
      refine hc.out.mono ?_
      rintro e w' ⟨rfl, rfl⟩
      go_wp2
      go_ret
      exact ⟨rfl, rfl⟩

end Go.Proofs.Ytekejhnhkifcfaa
