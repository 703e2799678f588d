/-
  No statement is proved here: a list of zeros that make gives, as one operation of a region; condition: at most 1048576 numbers.
-/
import Derived.Test.YtcdjabhdbobghaaDoorInts
import Derived.OwnWalk
import Derived.Laws.OwnMore
namespace Go.Proofs.YtcdjabhdbobghaaDoor
open Go.ChangeShapes Go.WideShapes Go.ChangeAt Go.RowKit

theorem zeros_made (n : Nat) : (madeCells #[Value.int .i64 0] (n * 1)).toList = (List.replicate n (0 : Int)).map (Value.int .i64) := by
  apply List.ext_getElem?
  intro j
  by_cases hj : j < n
  · simp [madeCells, hj, show j % 1 = 0 by omega]
  · rw [List.getElem?_eq_none (by simp [madeCells]; omega), List.getElem?_eq_none (by simp; omega)]
theorem make_zeros (n : Nat) (h : n ≤ 1048576) : ∃ R : Array Value, (∀ wx : World, (Instr.makeSlice 37 (.int .i64 (n : Int)) (.int .i64 (n : Int))).run Tryd.prog wx = .ok (.slice (some ⟨wx.heap.size, 0, none⟩) n n) (wx.alloc (.cells R 2))) ∧
    ∀ wx : World, Own (wx.alloc (.cells R 2)) wx.heap.size (.slice (some ⟨wx.heap.size, 0, none⟩) n n) (List.replicate n 0) := by
  obtain ⟨i0, hi, hz0, hz1, hz2⟩ := info_parts info64
  have hrun := fun wx : World => by
    have := run_makeSlice (P := Tryd.prog) wx 37 2 i0 (.int .i64 0) Tryd.underlying37 hi hz0 .i64 .i64 (n : Int) (n : Int) (by omega) (Int.le_refl _) (by rw [hz1]; simp; omega) (by rw [hz2]; omega) (by omega)
    simpa only [Int.toNat_natCast] using this
  refine ⟨_, hrun, fun wx => ?_⟩
  obtain ⟨w', hr, ho, _⟩ := run_makeSlice_full (P := Tryd.prog) wx wx.heap.size 37 2 i0 (.int .i64 0) 1 Tryd.underlying37 hi hz0 hz1 .i64 .i64 n (by omega) (by rw [hz2]; omega) (by unfold maxLen; omega) (Nat.le_refl _)
  rw [hrun wx] at hr
  simp only [Result.ok.injEq] at hr
  obtain ⟨_, rfl⟩ := hr
  unfold Own
  rw [List.length_replicate, ← zeros_made]
  exact ho
theorem upTo_zeros_get (n k : Nat) : (List.replicate n (0 : Int)).getD k 0 = 0 := by
  by_cases hk : k < n
  · simp [List.getD, hk]
  · simp [List.getD, hk]
end Go.Proofs.YtcdjabhdbobghaaDoor
