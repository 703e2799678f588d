/-
  No statement is proved here: texts that are joined by blanks, as lists of bytes; no condition.
-/
import Derived.Test.YtopfehbdnopokaaBase
import Derived.Lib.ItoaNum
import Derived.Lib.ItoaLen
import Derived.Lib.Join
import Derived.Laws.Concat
import Derived.IntWalk
namespace Go.Proofs.Ytopfehbdnopokaa
open Go.ChangeShapes Go.WideShapes Go.ChangeAt Go.RowKit

theorem withC {G C : Prop} (h : C) (k : C → G) : G := k h
theorem dec_short (n : Nat) (hn : n ≤ 1000000000) : (Lib.decDigits n).length ≤ 20 := by
  rw [Lib.decDigits_length]
  exact Lib.nDigits_le20 n (by omega)
theorem add_lists (x y : List UInt8) (hx : x.length ≤ 1000000) (hy : y.length ≤ 1000000) (w : World) : (Op.stringOp .add ⟨x.toArray⟩ ⟨y.toArray⟩).run Try.prog w = .ok (.string ⟨(x ++ y).toArray⟩) w := by
  rw [run_string_add_sum (P := Try.prog) w _ _ (by show x.toArray.size + y.toArray.size ≤ _; simp; omega)]
  rw [ByteArray.mk_append_mk]

/-- The text of the first k, with blanks. -/
def txtG (D : Nat → List UInt8) : Nat → List UInt8
  | 0 => []
  | k + 1 => if k = 0 then D 0 else (txtG D k ++ [32]) ++ D k
theorem txtG_one (D : Nat → List UInt8) : txtG D 1 = D 0 := rfl
theorem txtG_step (D : Nat → List UInt8) (k : Nat) (hk : 0 < k) : txtG D (k + 1) = (txtG D k ++ [32]) ++ D k := by
  rw [txtG, if_neg (by omega)]
theorem txtG_len {D : Nat → List UInt8} (h : ∀ k, (D k).length ≤ 99) : ∀ k, (txtG D k).length ≤ 100 * k
  | 0 => Nat.le_refl _
  | k + 1 => by
    have h1 := h k
    have h0 := h 0
    have ih := txtG_len h k
    rw [txtG]
    split
    · omega
    · simp
      omega
theorem txtG_tail (D : Nat → List UInt8) (m : Nat) : ∀ k, k ≤ m → txtG D (k + 1) = D 0 ++ Lib.joinTail [32] (((List.range m).map fun j => D (j + 1)).take k)
  | 0, _ => by
    rw [txtG_one]
    simp [Lib.joinTail]
  | k + 1, hk => by
    have ih := txtG_tail D m k (by omega)
    have e : ((List.range m).map fun j => D (j + 1))[k]? = some (D (k + 1)) := by
      rw [List.getElem?_map, List.getElem?_range (by omega)]
      rfl
    rw [txtG_step D (k + 1) (by omega), ih, Lib.joinTail_take_succ _ _ _ _ e]
    simp [List.append_assoc]
theorem txtG_join (D : Nat → List UInt8) (n : Nat) : txtG D n = Lib.join ((List.range n).map D) [32] := by
  cases n with
  | zero => rfl
  | succ m =>
    rw [txtG_tail D m m (Nat.le_refl _), List.range_succ_eq_map, List.map_cons, List.map_map]
    have e : ((List.range m).map fun j => D (j + 1)).take m = (List.range m).map fun j => D (j + 1) := by rw [List.take_of_length_le (by simp)]
    rw [e, Lib.join_cons]
    rfl

/-- The first k texts as strings, and empty ones behind them. -/
def fillG (D : Nat → List UInt8) (n k : Nat) : List Value := (List.range n).map fun j => if j < k then Value.string ⟨(D j).toArray⟩ else Value.string ⟨#[]⟩
theorem fillG_length (D : Nat → List UInt8) (n k : Nat) : (fillG D n k).length = n := by simp [fillG]
theorem fillG_get (D : Nat → List UInt8) (n k j : Nat) (hj : j < n) : (fillG D n k)[j]? = some (if j < k then Value.string ⟨(D j).toArray⟩ else Value.string ⟨#[]⟩) := by
  simp [fillG, hj]
theorem fillG_zero (D : Nat → List UInt8) (n : Nat) : fillG D n 0 = List.replicate n (Value.string ⟨#[]⟩) := by
  refine List.ext_getElem? fun j => ?_
  by_cases hj : j < n
  · rw [fillG_get D n 0 j hj, if_neg (by omega)]
    simp [hj]
  · rw [List.getElem?_eq_none (by rw [fillG_length]; omega), List.getElem?_eq_none (by simp; omega)]
theorem fillG_step (D : Nat → List UInt8) (n k : Nat) : (fillG D n k).set k (Value.string ⟨(D k).toArray⟩) = fillG D n (k + 1) := by
  refine List.ext_getElem? fun j => ?_
  by_cases hj : j < n
  · rw [fillG_get D n (k + 1) j hj, List.getElem?_set]
    by_cases e : k = j
    · subst e
      rw [if_pos rfl, if_pos (by rw [fillG_length]; exact hj), if_pos (by omega)]
    · rw [if_neg e, fillG_get D n k j hj]
      by_cases e2 : j < k
      · rw [if_pos e2, if_pos (by omega)]
      · rw [if_neg e2, if_neg (by omega)]
  · rw [List.getElem?_eq_none (by simp [fillG_length]; omega), List.getElem?_eq_none (by rw [fillG_length]; omega)]
/-- The texts as strings. -/
def strsG (D : Nat → List UInt8) (n : Nat) : List ByteArray := (List.range n).map fun j => ⟨(D j).toArray⟩
theorem strsG_length (D : Nat → List UInt8) (n : Nat) : (strsG D n).length = n := by simp [strsG]
theorem strsG_lists (D : Nat → List UInt8) (n : Nat) : (strsG D n).map (fun x => x.data.toList) = (List.range n).map D := by simp [strsG]
theorem strsG_cells (D : Nat → List UInt8) (n j : Nat) (x : ByteArray) (h : (strsG D n)[j]? = some x) : (fillG D n n)[j]? = some (Value.string x) := by
  have hj : j < n := by
    have := (List.getElem?_eq_some_iff.1 h).1
    rw [strsG_length] at this
    exact this
  rw [fillG_get D n n j hj, if_pos hj]
  simp [strsG, hj] at h
  rw [← h]
end Go.Proofs.Ytopfehbdnopokaa
