/-
  No statement is proved here: a fabric with one row more; no condition.
-/
import Derived.Test.YtilbadnnmhcdoaaDoorKnit
namespace Go.Proofs.YtilbadnnmhcdoaaDoor
open Go.RowKit

theorem rowAt_app {L : List ByteArray} {s : ByteArray} {j : Nat} (h : j < L.length) : rowAt (L ++ [s]) j = rowAt L j := by
  unfold rowAt
  rw [List.getD, List.getElem?_append_left h]
  rfl
theorem rowAt_last (L : List ByteArray) (s : ByteArray) : rowAt (L ++ [s]) L.length = s := by
  unfold rowAt
  simp [List.getD]
theorem wd_app {c : Int} {L : List ByteArray} {s : ByteArray} {j : Nat} (h : j ≤ L.length) : wd c (L ++ [s]) j = wd c L j := by
  cases j with
  | zero => rfl
  | succ j => rw [wd, wd, rowAt_app (by omega)]
theorem fine_app {c : Int} {L : List ByteArray} {s : ByteArray} {j : Nat} (h : j < L.length) : fine c (L ++ [s]) j = fine c L j := by
  unfold fine
  rw [wd_app (by omega), rowAt_app h]
theorem fine_last (c : Int) (L : List ByteArray) (s : ByteArray) : fine c (L ++ [s]) L.length = canB L.length (wd c L L.length) s := by
  unfold fine
  rw [wd_app (Nat.le_refl _), rowAt_last]
theorem okF_app {c : Int} {L : List ByteArray} {s : ByteArray} (h : okF c L = true) : okF c (L ++ [s]) = canB L.length (wd c L L.length) s := by
  obtain ⟨hc, hf⟩ := okF_parts h
  cases e : canB L.length (wd c L L.length) s with
  | true =>
    refine okF_mk (inB_mk hc) fun j hj => ?_
    rw [List.length_append] at hj
    simp at hj
    by_cases hjl : j < L.length
    · rw [fine_app hjl]; exact hf j hjl
    · obtain rfl : j = L.length := by omega
      rw [fine_last]; exact e
  | false =>
    refine (okF_bad (k := L.length) (by simp) (fun j hj => ?_) ?_).1
    · rw [fine_app hj]; exact hf j hj
    · rw [fine_last]; exact e
/-- What AddRow answers. -/
def addF (c : Int) (L : List ByteArray) (s : ByteArray) : (Int × List ByteArray) × Int := if okF c L = true then (if okF c (L ++ [s]) = true then ((c, L ++ [s]), 0) else ((0, []), 4)) else ((0, []), 1)
theorem addF_no {c : Int} {L : List ByteArray} {s : ByteArray} (h : okF c L = false) : addF c L s = ((0, []), 1) := by unfold addF; rw [h]; rfl
theorem addF_not {c : Int} {L : List ByteArray} {s : ByteArray} (h : okF c L = true) (h' : okF c (L ++ [s]) = false) : addF c L s = ((0, []), 4) := by unfold addF; rw [if_pos h, h']; rfl
theorem addF_yes {c : Int} {L : List ByteArray} {s : ByteArray} (h : okF c L = true) (h' : okF c (L ++ [s]) = true) : addF c L s = ((c, L ++ [s]), 0) := by unfold addF; rw [if_pos h, if_pos h']
theorem addF_len {c : Int} {L : List ByteArray} {s : ByteArray} (hn : L.length ≤ 1048576) : (addF c L s).1.2.length ≤ 1048577 := by
  unfold addF
  split
  · split
    · simp; omega
    · simp
  · simp
end Go.Proofs.YtilbadnnmhcdoaaDoor
