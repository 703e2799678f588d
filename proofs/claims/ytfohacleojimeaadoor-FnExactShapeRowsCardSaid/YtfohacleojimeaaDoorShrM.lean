/-
  No statement is proved here: rows from so many loops to so many, as numbers; condition: from 1 to 60 loops, 1 to 30 rows.
-/
import Derived.Test.YtfohacleojimeaaDoorShpT
import Derived.Test.YtfohacleojimeaaDoorStr0
namespace Go.Proofs.YtfohacleojimeaaDoor
open Go.RowKit

/-- The loops above the row j. -/
def nxF (f t r : Int) (j : Nat) : Int := f + ((t - f) * ((j : Int) + 1)).tdiv r
def nowF (f t r : Int) : Nat → Int
  | 0 => f
  | j + 1 => nxF f t r j
theorem nowF_succ (f t r : Int) (j : Nat) : nowF f t r (j + 1) = f + ((t - f) * ((j : Int) + 1)).tdiv r := rfl
theorem prod_bd {f t r : Int} {j : Nat} (hf1 : 1 ≤ f) (hf2 : f ≤ 60) (ht1 : 1 ≤ t) (ht2 : t ≤ 60) (hr2 : r ≤ 30) (hj : (j : Int) < r) :
    -1800 ≤ (t - f) * ((j : Int) + 1) ∧ (t - f) * ((j : Int) + 1) ≤ 1800 := by
  have a1 : (t - f) * ((j : Int) + 1) ≤ 60 * 30 := by
    by_cases h : t ≤ f
    · have := Int.mul_nonneg (show 0 ≤ f - t by omega) (show 0 ≤ (j : Int) + 1 by omega)
      have e : (t - f) * ((j : Int) + 1) = - ((f - t) * ((j : Int) + 1)) := by rw [← Int.neg_mul]; congr 1; omega
      omega
    · exact Int.mul_le_mul (by omega) (by omega) (by omega) (by omega)
  have a2 : (f - t) * ((j : Int) + 1) ≤ 60 * 30 := by
    by_cases h : f ≤ t
    · have := Int.mul_nonneg (show 0 ≤ t - f by omega) (show 0 ≤ (j : Int) + 1 by omega)
      have e : (f - t) * ((j : Int) + 1) = - ((t - f) * ((j : Int) + 1)) := by rw [← Int.neg_mul]; congr 1; omega
      omega
    · exact Int.mul_le_mul (by omega) (by omega) (by omega) (by omega)
  have e : (t - f) * ((j : Int) + 1) = - ((f - t) * ((j : Int) + 1)) := by rw [← Int.neg_mul]; congr 1; omega
  omega
theorem tdiv_part {d r : Int} {j : Nat} (h0 : 0 ≤ d) (hj : (j : Int) < r) : 0 ≤ (d * ((j : Int) + 1)).tdiv r ∧ (d * ((j : Int) + 1)).tdiv r ≤ d := by
  have hp : 0 ≤ d * ((j : Int) + 1) := Int.mul_nonneg h0 (by omega)
  rw [Int.tdiv_eq_ediv_of_nonneg hp]
  refine ⟨Int.ediv_nonneg hp (by omega), ?_⟩
  have : d * ((j : Int) + 1) ≤ d * r := Int.mul_le_mul_of_nonneg_left (by omega) h0
  have h2 := Int.ediv_le_ediv (c := r) (by omega) this
  rwa [Int.mul_ediv_cancel _ (by omega)] at h2
theorem nxF_bd {f t r : Int} {j : Nat} (hf1 : 1 ≤ f) (hf2 : f ≤ 60) (ht1 : 1 ≤ t) (ht2 : t ≤ 60) (hj : (j : Int) < r) :
    (1 ≤ nxF f t r j ∧ nxF f t r j ≤ 60) ∧ (-60 ≤ ((t - f) * ((j : Int) + 1)).tdiv r ∧ ((t - f) * ((j : Int) + 1)).tdiv r ≤ 60) := by
  unfold nxF
  by_cases h : f ≤ t
  · have := tdiv_part (d := t - f) (r := r) (j := j) (by omega) hj
    omega
  · have := tdiv_part (d := f - t) (r := r) (j := j) (by omega) hj
    have e : (t - f) * ((j : Int) + 1) = - ((f - t) * ((j : Int) + 1)) := by rw [← Int.neg_mul]; congr 1; omega
    rw [e, Int.neg_tdiv]
    omega
theorem nowF_bd {f t r : Int} {j : Nat} (hf1 : 1 ≤ f) (hf2 : f ≤ 60) (ht1 : 1 ≤ t) (ht2 : t ≤ 60) (hj : (j : Int) ≤ r) : 1 ≤ nowF f t r j ∧ nowF f t r j ≤ 60 := by
  cases j with
  | zero => exact ⟨hf1, hf2⟩
  | succ j => exact (nxF_bd hf1 hf2 ht1 ht2 (by push_cast at hj; omega)).1
def rsL (f t r : Int) (k : Nat) : List ByteArray := (List.range k).map fun j => (rowF (nowF f t r j) (nowF f t r (j + 1))).1
def rsOk (f t r : Int) (k : Nat) : Bool := (List.range k).all fun j => decide ((rowF (nowF f t r j) (nowF f t r (j + 1))).2 = 0)
theorem rsL_len (f t r : Int) (k : Nat) : (rsL f t r k).length = k := by simp [rsL]
theorem rsL_succ (f t r : Int) (k : Nat) : rsL f t r (k + 1) = rsL f t r k ++ [(rowF (nowF f t r k) (nowF f t r (k + 1))).1] := by simp [rsL, List.range_succ]
theorem rsL_get (f t r : Int) {N k : Nat} (h : k < N) : (rsL f t r N).getD k ByteArray.empty = (rowF (nowF f t r k) (nowF f t r (k + 1))).1 := by simp [rsL, List.getD, h]
theorem rsOk_succ (f t r : Int) (k : Nat) : rsOk f t r (k + 1) = (rsOk f t r k && decide ((rowF (nowF f t r k) (nowF f t r (k + 1))).2 = 0)) := by simp [rsOk, List.range_succ]
theorem rsOk_no {f t r : Int} {k N : Nat} (hk : k < N) (h : ¬ (rowF (nowF f t r k) (nowF f t r (k + 1))).2 = 0) : rsOk f t r N = false := by
  unfold rsOk
  rw [List.all_eq_false]
  exact ⟨k, List.mem_range.2 hk, by simpa using h⟩
/-- What ShapeRows answers. -/
def rowsF (f t r : Int) : List ByteArray × Int := if (inB f 1 60 && inB t 1 60 && inB r 1 30) = true then (if rsOk f t r r.toNat = true then (rsL f t r r.toNat, 0) else ([], 6)) else ([], 2)
theorem rowsF_no {f t r : Int} (h : (inB f 1 60 && inB t 1 60 && inB r 1 30) = false) : rowsF f t r = ([], 2) := by unfold rowsF; rw [h]; rfl
theorem rowsF_yes {f t r : Int} (h : (inB f 1 60 && inB t 1 60 && inB r 1 30) = true) : rowsF f t r = if rsOk f t r r.toNat = true then (rsL f t r r.toNat, 0) else ([], 6) := if_pos h
theorem rowsF_len (f t r : Int) : (rowsF f t r).1.length ≤ 30 := by
  unfold rowsF
  split
  · rename_i h
    rw [Bool.and_eq_true] at h
    obtain ⟨r1, r2⟩ := inB_of h.2
    split
    · simp only [rsL_len]; omega
    · simp
  · simp
end Go.Proofs.YtfohacleojimeaaDoor
