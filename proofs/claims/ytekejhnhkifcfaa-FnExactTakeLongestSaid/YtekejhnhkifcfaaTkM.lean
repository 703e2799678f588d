/-
  No statement is proved here: the longest wool that is taken, as numbers; no condition.
-/
import Derived.Test.YtekejhnhkifcfaaPut8
namespace Go.Proofs.Ytekejhnhkifcfaa
open Go.RowKit

/-- What is still to take when k lengths have been gone through, from the greatest. -/
def remT (z : Nat → Int) (g : Int) : Nat → Int
  | 0 => g
  | k + 1 => remT z g k - min (remT z g k) (z (7 - k))
theorem remT_step (z : Nat → Int) (g : Int) (k : Nat) : remT z g (k + 1) = remT z g k - min (remT z g k) (z (7 - k)) := rfl
theorem remT_bd {z : Nat → Int} {g : Int} (h : okH z = true) (hg : 0 ≤ g) : ∀ k, k ≤ 8 → 0 ≤ remT z g k ∧ remT z g k ≤ g
  | 0, _ => ⟨hg, Int.le_refl _⟩
  | k + 1, hk => by
    have ih := remT_bd h hg k (by omega)
    have b := okH_of h (7 - k) (by omega)
    rw [remT_step]
    omega
/-- What has been taken of a length; what is left of it. -/
def tkn (z : Nat → Int) (g : Int) (k j : Nat) : Int := if 8 ≤ j + k then min (remT z g (7 - j)) (z j) else 0
def lft (z : Nat → Int) (g : Int) (k j : Nat) : Int := z j - tkn z g k j
theorem tkn_zero (z : Nat → Int) (g : Int) {j : Nat} (hj : j < 8) : tkn z g 0 j = 0 := if_neg (by omega)
theorem lft_zero (z : Nat → Int) (g : Int) {j : Nat} (hj : j < 8) : lft z g 0 j = z j := by rw [lft, tkn_zero z g hj]; omega
theorem tkn_other (z : Nat → Int) (g : Int) {k j : Nat} (hk : k < 8) (_ : j < 8) (h : j ≠ 7 - k) : tkn z g k j = tkn z g (k + 1) j := by
  unfold tkn
  by_cases h2 : 8 ≤ j + k
  · rw [if_pos h2, if_pos (by omega)]
  · rw [if_neg h2, if_neg (by omega)]
theorem lft_other (z : Nat → Int) (g : Int) {k j : Nat} (hk : k < 8) (hj : j < 8) (h : j ≠ 7 - k) : lft z g k j = lft z g (k + 1) j := by rw [lft, lft, tkn_other z g hk hj h]
theorem tkn_new (z : Nat → Int) (g : Int) {k : Nat} (hk : k < 8) : tkn z g (k + 1) (7 - k) = min (remT z g k) (z (7 - k)) := by
  unfold tkn
  rw [if_pos (by omega), show 7 - (7 - k) = k by omega]
theorem tkn_old (z : Nat → Int) (g : Int) {k : Nat} (hk : k < 8) : tkn z g k (7 - k) = 0 := if_neg (by omega)
theorem lft_old (z : Nat → Int) (g : Int) {k : Nat} (hk : k < 8) : lft z g k (7 - k) = z (7 - k) := by rw [lft, tkn_old z g hk]; omega
theorem lft_new (z : Nat → Int) (g : Int) {k : Nat} (hk : k < 8) : lft z g (k + 1) (7 - k) = z (7 - k) - min (remT z g k) (z (7 - k)) := by rw [lft, tkn_new z g hk]
theorem sum8k {z : Nat → Int} (h : okH z = true) : 0 ≤ sumTo z 8 ∧ sumTo z 8 ≤ 8000 := by
  have b0 := okH_of h 0 (by omega)
  have b1 := okH_of h 1 (by omega)
  have b2 := okH_of h 2 (by omega)
  have b3 := okH_of h 3 (by omega)
  have b4 := okH_of h 4 (by omega)
  have b5 := okH_of h 5 (by omega)
  have b6 := okH_of h 6 (by omega)
  have b7 := okH_of h 7 (by omega)
  have e : sumTo z 8 = z 0 + z 1 + z 2 + z 3 + z 4 + z 5 + z 6 + z 7 := by simp [sumTo]
  rw [e]
  omega
def zeroH : Nat → Int := fun _ => 0
/-- What TakeLongest answers. -/
def takeF (z : Nat → Int) (g : Int) : (Nat → Int) × (Nat → Int) × Int :=
  if okH z = true then (if 0 ≤ g then (if g ≤ sumTo z 8 then (tkn z g 8, lft z g 8, 0) else (zeroH, zeroH, 6)) else (zeroH, zeroH, 2)) else (zeroH, zeroH, 1)
theorem takeF_bad {z : Nat → Int} {g : Int} (h : okH z = false) : takeF z g = (zeroH, zeroH, 1) := by rw [takeF, if_neg (by rw [h]; simp)]
theorem takeF_neg {z : Nat → Int} {g : Int} (h : okH z = true) (hg : ¬ 0 ≤ g) : takeF z g = (zeroH, zeroH, 2) := by rw [takeF, if_pos h, if_neg hg]
theorem takeF_few {z : Nat → Int} {g : Int} (h : okH z = true) (hg : 0 ≤ g) (hs : ¬ g ≤ sumTo z 8) : takeF z g = (zeroH, zeroH, 6) := by rw [takeF, if_pos h, if_pos hg, if_neg hs]
theorem takeF_yes {z : Nat → Int} {g : Int} (h : okH z = true) (hg : 0 ≤ g) (hs : g ≤ sumTo z 8) : takeF z g = (tkn z g 8, lft z g 8, 0) := by rw [takeF, if_pos h, if_pos hg, if_pos hs]
end Go.Proofs.Ytekejhnhkifcfaa
