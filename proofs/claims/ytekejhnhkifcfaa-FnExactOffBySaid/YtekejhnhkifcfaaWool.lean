/-
  No statement is proved here: the wool of a heap by which one can divide; conditions as stated.
-/
import Derived.Test.YtekejhnhkifcfaaHeapX
import Derived.Laws.StructEq
namespace Go.Proofs.Ytekejhnhkifcfaa
open Go.RowKit

theorem hu_heap : Try.prog.underlying 23 = some (.array 8 21) := by kernel_rfl
theorem sz_i32 (w : World) : (sizeOf 21).run Try.prog w = .ok 1 w := by kernel_rfl
set_option maxHeartbeats 4000000 in
/-- Two arrays of eight numbers are compared number by number. -/
theorem eq8_in (x0 x1 x2 x3 x4 x5 x6 x7 y0 y1 y2 y3 y4 y5 y6 y7 : Int) (w : World) : (Op.equalIn 10000 23 (.agg #[.int .i32 x0, .int .i32 x1, .int .i32 x2, .int .i32 x3, .int .i32 x4, .int .i32 x5, .int .i32 x6, .int .i32 x7]) (.agg #[.int .i32 y0, .int .i32 y1, .int .i32 y2, .int .i32 y3, .int .i32 y4, .int .i32 y5, .int .i32 y6, .int .i32 y7])).run Try.prog w = .ok (decide (x0 = y0 ∧ x1 = y1 ∧ x2 = y2 ∧ x3 = y3 ∧ x4 = y4 ∧ x5 = y5 ∧ x6 = y6 ∧ x7 = y7)) w := by
  have hi := Try.underlying21
  have pt : ∀ (cs : Array Value) (n : Nat) (v : Value) (wx : World), cs[n]? = some v → (part 21 cs n).run Try.prog wx = .ok v wx := fun cs n v wx h => by
    simp [part, isAgg, run_underlying hi, h]
  have pe : ∀ (a b : Int) (wx : World), (Op.equalIn 9999 21 (.int .i32 a) (.int .i32 b)).run Try.prog wx = .ok (a == b) wx := fun a b wx => run_equalIn_int wx 9998 _ .i32 .i32 a b hi
  rw [Op.equalIn]
  simp only [Sem.run_bind, run_underlying hu_heap, Result.andThen_ok, sz_i32, Std.Legacy.Range.forIn_eq_forIn_range', Std.Legacy.Range.size, Nat.sub_zero, Nat.add_sub_cancel, Nat.div_one]
  rw [show List.range' 0 8 1 = [0, 1, 2, 3, 4, 5, 6, 7] from rfl]
  have a0 : ∀ wx, (part 21 #[.int .i32 x0, .int .i32 x1, .int .i32 x2, .int .i32 x3, .int .i32 x4, .int .i32 x5, .int .i32 x6, .int .i32 x7] 0).run Try.prog wx = .ok (.int .i32 x0) wx := fun wx => pt _ _ _ wx rfl
  have b0 : ∀ wx, (part 21 #[.int .i32 y0, .int .i32 y1, .int .i32 y2, .int .i32 y3, .int .i32 y4, .int .i32 y5, .int .i32 y6, .int .i32 y7] 0).run Try.prog wx = .ok (.int .i32 y0) wx := fun wx => pt _ _ _ wx rfl
  have a1 : ∀ wx, (part 21 #[.int .i32 x0, .int .i32 x1, .int .i32 x2, .int .i32 x3, .int .i32 x4, .int .i32 x5, .int .i32 x6, .int .i32 x7] 1).run Try.prog wx = .ok (.int .i32 x1) wx := fun wx => pt _ _ _ wx rfl
  have b1 : ∀ wx, (part 21 #[.int .i32 y0, .int .i32 y1, .int .i32 y2, .int .i32 y3, .int .i32 y4, .int .i32 y5, .int .i32 y6, .int .i32 y7] 1).run Try.prog wx = .ok (.int .i32 y1) wx := fun wx => pt _ _ _ wx rfl
  have a2 : ∀ wx, (part 21 #[.int .i32 x0, .int .i32 x1, .int .i32 x2, .int .i32 x3, .int .i32 x4, .int .i32 x5, .int .i32 x6, .int .i32 x7] 2).run Try.prog wx = .ok (.int .i32 x2) wx := fun wx => pt _ _ _ wx rfl
  have b2 : ∀ wx, (part 21 #[.int .i32 y0, .int .i32 y1, .int .i32 y2, .int .i32 y3, .int .i32 y4, .int .i32 y5, .int .i32 y6, .int .i32 y7] 2).run Try.prog wx = .ok (.int .i32 y2) wx := fun wx => pt _ _ _ wx rfl
  have a3 : ∀ wx, (part 21 #[.int .i32 x0, .int .i32 x1, .int .i32 x2, .int .i32 x3, .int .i32 x4, .int .i32 x5, .int .i32 x6, .int .i32 x7] 3).run Try.prog wx = .ok (.int .i32 x3) wx := fun wx => pt _ _ _ wx rfl
  have b3 : ∀ wx, (part 21 #[.int .i32 y0, .int .i32 y1, .int .i32 y2, .int .i32 y3, .int .i32 y4, .int .i32 y5, .int .i32 y6, .int .i32 y7] 3).run Try.prog wx = .ok (.int .i32 y3) wx := fun wx => pt _ _ _ wx rfl
  have a4 : ∀ wx, (part 21 #[.int .i32 x0, .int .i32 x1, .int .i32 x2, .int .i32 x3, .int .i32 x4, .int .i32 x5, .int .i32 x6, .int .i32 x7] 4).run Try.prog wx = .ok (.int .i32 x4) wx := fun wx => pt _ _ _ wx rfl
  have b4 : ∀ wx, (part 21 #[.int .i32 y0, .int .i32 y1, .int .i32 y2, .int .i32 y3, .int .i32 y4, .int .i32 y5, .int .i32 y6, .int .i32 y7] 4).run Try.prog wx = .ok (.int .i32 y4) wx := fun wx => pt _ _ _ wx rfl
  have a5 : ∀ wx, (part 21 #[.int .i32 x0, .int .i32 x1, .int .i32 x2, .int .i32 x3, .int .i32 x4, .int .i32 x5, .int .i32 x6, .int .i32 x7] 5).run Try.prog wx = .ok (.int .i32 x5) wx := fun wx => pt _ _ _ wx rfl
  have b5 : ∀ wx, (part 21 #[.int .i32 y0, .int .i32 y1, .int .i32 y2, .int .i32 y3, .int .i32 y4, .int .i32 y5, .int .i32 y6, .int .i32 y7] 5).run Try.prog wx = .ok (.int .i32 y5) wx := fun wx => pt _ _ _ wx rfl
  have a6 : ∀ wx, (part 21 #[.int .i32 x0, .int .i32 x1, .int .i32 x2, .int .i32 x3, .int .i32 x4, .int .i32 x5, .int .i32 x6, .int .i32 x7] 6).run Try.prog wx = .ok (.int .i32 x6) wx := fun wx => pt _ _ _ wx rfl
  have b6 : ∀ wx, (part 21 #[.int .i32 y0, .int .i32 y1, .int .i32 y2, .int .i32 y3, .int .i32 y4, .int .i32 y5, .int .i32 y6, .int .i32 y7] 6).run Try.prog wx = .ok (.int .i32 y6) wx := fun wx => pt _ _ _ wx rfl
  have a7 : ∀ wx, (part 21 #[.int .i32 x0, .int .i32 x1, .int .i32 x2, .int .i32 x3, .int .i32 x4, .int .i32 x5, .int .i32 x6, .int .i32 x7] 7).run Try.prog wx = .ok (.int .i32 x7) wx := fun wx => pt _ _ _ wx rfl
  have b7 : ∀ wx, (part 21 #[.int .i32 y0, .int .i32 y1, .int .i32 y2, .int .i32 y3, .int .i32 y4, .int .i32 y5, .int .i32 y6, .int .i32 y7] 7).run Try.prog wx = .ok (.int .i32 y7) wx := fun wx => pt _ _ _ wx rfl
  clear pt
  rw [List.forIn_cons]
  by_cases h0 : x0 = y0
  case neg => simp [h0, a0, b0, a1, b1, a2, b2, a3, b3, a4, b4, a5, b5, a6, b6, a7, b7, pe, Nat.mul_one]
  by_cases h1 : x1 = y1
  case neg => simp [h1, a0, b0, a1, b1, a2, b2, a3, b3, a4, b4, a5, b5, a6, b6, a7, b7, pe, Nat.mul_one]
  by_cases h2 : x2 = y2
  case neg => simp [h2, a0, b0, a1, b1, a2, b2, a3, b3, a4, b4, a5, b5, a6, b6, a7, b7, pe, Nat.mul_one]
  by_cases h3 : x3 = y3
  case neg => simp [h3, a0, b0, a1, b1, a2, b2, a3, b3, a4, b4, a5, b5, a6, b6, a7, b7, pe, Nat.mul_one]
  by_cases h4 : x4 = y4
  case neg => simp [h4, a0, b0, a1, b1, a2, b2, a3, b3, a4, b4, a5, b5, a6, b6, a7, b7, pe, Nat.mul_one]
  by_cases h5 : x5 = y5
  case neg => simp [h5, a0, b0, a1, b1, a2, b2, a3, b3, a4, b4, a5, b5, a6, b6, a7, b7, pe, Nat.mul_one]
  by_cases h6 : x6 = y6
  case neg => simp [h6, a0, b0, a1, b1, a2, b2, a3, b3, a4, b4, a5, b5, a6, b6, a7, b7, pe, Nat.mul_one]
  by_cases h7 : x7 = y7
  case neg => simp [h7, a0, b0, a1, b1, a2, b2, a3, b3, a4, b4, a5, b5, a6, b6, a7, b7, pe, Nat.mul_one]
  simp [h0, h1, h2, h3, h4, h5, h6, h7, b0, b1, b2, b3, b4, b5, b6, b7, pe, Nat.mul_one]

theorem sum0_iff {x0 x1 x2 x3 x4 x5 x6 x7 : Int} (h : okH (z8 x0 x1 x2 x3 x4 x5 x6 x7) = true) : (x0 = 0 ∧ x1 = 0 ∧ x2 = 0 ∧ x3 = 0 ∧ x4 = 0 ∧ x5 = 0 ∧ x6 = 0 ∧ x7 = 0) ↔ sumTo (z8 x0 x1 x2 x3 x4 x5 x6 x7) 8 = 0 := by
  have b := ok8_of h
  have e : sumTo (z8 x0 x1 x2 x3 x4 x5 x6 x7) 8 = x0 + x1 + x2 + x3 + x4 + x5 + x6 + x7 := by simp [sumTo, z8]
  rw [e]
  omega

set_option maxRecDepth 100000 in
set_option maxHeartbeats 2000000 in
theorem woolOf_yes (x0 x1 x2 x3 x4 x5 x6 x7 : Int) (h : okH (z8 x0 x1 x2 x3 x4 x5 x6 x7) = true) (hn : ¬ sumTo (z8 x0 x1 x2 x3 x4 x5 x6 x7) 8 = 0) (w : World) :
    Calls Try.prog 47 #[.agg #[.int .i32 x0, .int .i32 x1, .int .i32 x2, .int .i32 x3, .int .i32 x4, .int .i32 x5, .int .i32 x6, .int .i32 x7]] w fun e w' => e = .returned (.int .i64 (sumTo (z8 x0 x1 x2 x3 x4 x5 x6 x7) 8)) ∧ Below w.heap.size w w' := by
  have he := fun wx => eq8_in x0 x1 x2 x3 x4 x5 x6 x7 0 0 0 0 0 0 0 0 wx
  have hf : decide (x0 = 0 ∧ x1 = 0 ∧ x2 = 0 ∧ x3 = 0 ∧ x4 = 0 ∧ x5 = 0 ∧ x6 = 0 ∧ x7 = 0) = false := by
    rw [decide_eq_false_iff_not, sum0_iff h]
    exact hn
  have bx := ok8_of h
  have hbx : bd32 (z8 x0 x1 x2 x3 x4 x5 x6 x7) := bd32_z8 (by unfold in32; omega) (by unfold in32; omega) (by unfold in32; omega) (by unfold in32; omega) (by unfold in32; omega) (by unfold in32; omega) (by unfold in32; omega) (by unfold in32; omega)
  rw [hf] at he
  have HS := Lib.hid (sumOf32_any (z8 x0 x1 x2 x3 x4 x5 x6 x7) w.heap.size 0 _ (heapAt_alloc w x0 x1 x2 x3 x4 x5 x6 x7 23) hbx)
  clear hf hn h hbx bx
  generalize sumTo (z8 x0 x1 x2 x3 x4 x5 x6 x7) 8 = s at *
  go_enter Try.func47, Try.ntmps47
  go_wp2_with fail
  refine HS.out.mono ?_
  rintro e w1 ⟨rfl, hB⟩
  go_wp2_with fail
  go_ret
  exact ⟨rfl, by first | (subst hB; go_grown) | exact ((Below.refl w.heap.size w).alloc (Nat.le_refl _) _).trans (hB.mono (by simp))⟩

set_option maxRecDepth 100000 in
theorem woolOf_no (w : World) :
    Calls Try.prog 47 #[.agg #[.int .i32 0, .int .i32 0, .int .i32 0, .int .i32 0, .int .i32 0, .int .i32 0, .int .i32 0, .int .i32 0]] w fun e w' => e = .panicked [{ v := .iface 86 (.agg #[]), recovered := false }] ∧ Below w.heap.size w w' := by
  have he := fun wx => eq8_in 0 0 0 0 0 0 0 0 0 0 0 0 0 0 0 0 wx
  simp only [and_self, decide_true] at he
  go_enter Try.func47, Try.ntmps47
  go_wp2_with fail
  exact ⟨rfl, rfl, (Below.refl w.heap.size w).alloc (Nat.le_refl _) _⟩
end Go.Proofs.Ytekejhnhkifcfaa
