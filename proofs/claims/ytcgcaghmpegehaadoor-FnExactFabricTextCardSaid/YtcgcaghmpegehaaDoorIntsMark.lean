/-
  No statement is proved here: what the law's own marking, and its looking for the marks, do to slices of int64s; condition: at most 2097152 numbers.
-/
import Derived.Test.YtcgcaghmpegehaaDoorIntsEq
namespace Go.Proofs.YtcgcaghmpegehaaDoor
open Go.ChangeShapes Go.WideShapes Go.ChangeAt Go.RowKit


theorem grown_trans {a b c : World} {row : Option Nat} (h : a.grownBy b row) (k : b.grownBy c row) : a.grownBy c row :=
  ⟨k.os.trans h.os, k.tape.trans h.tape, k.output.trans h.output, Nat.le_trans h.size k.size, fun i hi hne => (k.block i (Nat.lt_of_lt_of_le hi h.size) hne).trans (h.block i hi hne)⟩
/-- The first j numbers marked. -/
def markedTo (k : Int) (zs : List Int) (j : Nat) : List Int := marks k j ++ zs.drop j
theorem markedTo_length (k : Int) (zs : List Int) (j : Nat) (hj : j ≤ zs.length) : (markedTo k zs j).length = zs.length := by simp [markedTo, marks_length]; omega
theorem markedTo_all (k : Int) (zs : List Int) : markedTo k zs zs.length = marks k zs.length := by simp [markedTo]
theorem markedTo_zero (k : Int) (zs : List Int) : markedTo k zs 0 = zs := by simp [markedTo, marks]
theorem markedTo_step (k : Int) (zs : List Int) (j : Nat) (hj : j < zs.length) : (markedTo k zs j).set j (k + j) = markedTo k zs (j + 1) := by
  have e : zs.drop j = zs.getD j 0 :: zs.drop (j + 1) := by
    rw [List.drop_eq_getElem_cons hj]
    simp [List.getD, List.getElem?_eq_getElem hj]
  rw [markedTo, e, List.set_append, if_neg (by simp [marks_length]), marks_length, Nat.sub_self, List.set_cons_zero, markedTo, marks, marks, List.range_succ, List.map_append]
  simp

set_option linter.unusedVariables false in
theorem markedTo_get (k : Int) (zs : List Int) (j : Nat) (hj : j < zs.length) : (markedTo k zs j).getD j 0 = zs.getD j 0 := by
  rw [markedTo, List.getD, List.getElem?_append_right (by simp [marks_length]), marks_length, Nat.sub_self]
  simp [List.getD]
end Go.Proofs.YtcgcaghmpegehaaDoor
