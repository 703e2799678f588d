/-
  No statement is proved here: the numbers of a row that goes from so many loops to so many; condition: from 1 to 60 loops.
-/
import Derived.Test.YtfohacleojimeaaDoorIn
import Derived.Test.YtfohacleojimeaaDoorBy
namespace Go.Proofs.YtfohacleojimeaaDoor
open Go.RowKit

/-- The stitch over the loop k. -/
def shB (n m c : Int) (k : Nat) : Int := if ((k : Int) * m).tdiv n < (((k : Int) + 1) * m).tdiv n then c else 107
theorem shB_yes {n m c : Int} {k : Nat} (h : ((k : Int) * m).tdiv n < (((k : Int) + 1) * m).tdiv n) : shB n m c k = c := if_pos h
theorem shB_no {n m c : Int} {k : Nat} (h : ¬ ((k : Int) * m).tdiv n < (((k : Int) + 1) * m).tdiv n) : shB n m c k = 107 := if_neg h
def shL (n m c : Int) (k : Nat) : List Int := (List.range k).map (shB n m c)
theorem shL_len (n m c : Int) (k : Nat) : (shL n m c k).length = k := by simp [shL]
theorem shL_zero (n m c : Int) : shL n m c 0 = [] := rfl
theorem shL_succ (n m c : Int) (k : Nat) : shL n m c (k + 1) = shL n m c k ++ [shB n m c k] := by simp [shL, List.range_succ]
theorem shL_get (n m c : Int) {N k : Nat} (h : k < N) : (shL n m c N).getD k 0 = shB n m c k := by simp [shL, List.getD, h]
/-- A row, and the code. -/
def lessOf (f t : Int) : Int := if f < t then f else t
def moreOf (f t : Int) : Int := if f < t then t - f else f - t
def letOf (f t : Int) : Int := if f < t then 105 else 100
def rowF (f t : Int) : ByteArray × Int := if 2 * t < f ∨ 2 * f < t then (ByteArray.empty, 6) else (txB (shL (lessOf f t) (moreOf f t) (letOf f t) (lessOf f t).toNat), 0)
theorem rowF_no {f t : Int} (h : 2 * t < f ∨ 2 * f < t) : rowF f t = (ByteArray.empty, 6) := if_pos h
theorem rowF_yes {f t : Int} (h : ¬ (2 * t < f ∨ 2 * f < t)) : rowF f t = (txB (shL (lessOf f t) (moreOf f t) (letOf f t) (lessOf f t).toNat), 0) := if_neg h
def shapeF (f t : Int) : ByteArray × Int := if (inB f 1 60 && inB t 1 60) = true then rowF f t else (ByteArray.empty, 2)
theorem shapeF_no {f t : Int} (h : (inB f 1 60 && inB t 1 60) = false) : shapeF f t = (ByteArray.empty, 2) := by unfold shapeF; rw [h]; rfl
theorem shapeF_yes {f t : Int} (h : (inB f 1 60 && inB t 1 60) = true) : shapeF f t = rowF f t := if_pos h
theorem mul_bd {n m : Int} {k : Nat} (hn : 1 ≤ n) (hn2 : n ≤ 60) (hm : 0 ≤ m) (hm2 : m ≤ 60) (hk : (k : Int) < n) :
    (0 ≤ (k : Int) * m ∧ (k : Int) * m ≤ 3600) ∧ (0 ≤ ((k : Int) + 1) * m ∧ ((k : Int) + 1) * m ≤ 3600) := by
  have h1 : 0 ≤ (k : Int) * m := Int.mul_nonneg (by omega) hm
  have h2 : (k : Int) * m ≤ 59 * 60 := Int.mul_le_mul (by omega) hm2 hm (by omega)
  have h3 : ((k : Int) + 1) * m = (k : Int) * m + m := by rw [Int.add_mul, Int.one_mul]
  omega
theorem div_bd {n a : Int} (hn : 1 ≤ n) (h0 : 0 ≤ a) (h1 : a ≤ 3600) : 0 ≤ a.tdiv n ∧ a.tdiv n ≤ 3600 := by
  rw [Int.tdiv_eq_ediv_of_nonneg h0]
  exact ⟨Int.ediv_nonneg h0 (by omega), Int.le_trans (Int.ediv_le_self n h0) h1⟩
end Go.Proofs.YtfohacleojimeaaDoor
