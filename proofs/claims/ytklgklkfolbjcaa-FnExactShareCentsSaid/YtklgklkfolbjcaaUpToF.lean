/-
  No statement is proved here: numbers that lie from 0 to a most; no condition.
-/
import Derived.Test.YtklgklkfolbjcaaInts
import Derived.Test.YtklgklkfolbjcaaIntsEq
import Derived.Test.YtklgklkfolbjcaaIn
namespace Go.Proofs.Ytklgklkfolbjcaa
open Go.ChangeShapes Go.WideShapes Go.ChangeAt Go.RowKit

/-- All numbers lie from 0 to most. -/
def upTo (zs : List Int) (most : Int) : Bool := zs.all fun z => inB z 0 most
theorem take_step {zs : List Int} {k : Nat} (hk : k < zs.length) : zs.take (k + 1) = zs.take k ++ [zs.getD k 0] := by
  rw [List.take_add_one, List.getElem?_eq_getElem hk, List.getD, List.getElem?_eq_getElem hk]
  rfl
theorem upTo_step (zs : List Int) (m : Int) (k : Nat) (hk : k < zs.length) : upTo (zs.take (k + 1)) m = (upTo (zs.take k) m && inB (zs.getD k 0) 0 m) := by
  rw [take_step hk, upTo, List.all_append, ← upTo]
  simp
theorem upTo_no (zs : List Int) (m : Int) (k : Nat) (hk : k < zs.length) (h : inB (zs.getD k 0) 0 m = false) : upTo zs m = false := by
  rw [upTo, List.all_eq_false]
  refine ⟨zs.getD k 0, ?_, by rw [h]; simp⟩
  rw [List.getD, List.getElem?_eq_getElem hk]
  exact List.getElem_mem hk
theorem upTo_all (zs : List Int) (m : Int) : upTo (zs.take zs.length) m = upTo zs m := by rw [List.take_length]
theorem upTo_get {zs : List Int} {m : Int} (h : upTo zs m = true) (k : Nat) (hk : k < zs.length) : 0 ≤ zs.getD k 0 ∧ zs.getD k 0 ≤ m := by
  rw [upTo, List.all_eq_true] at h
  refine inB_of (h _ ?_)
  rw [List.getD, List.getElem?_eq_getElem hk]
  exact List.getElem_mem hk
end Go.Proofs.Ytklgklkfolbjcaa
