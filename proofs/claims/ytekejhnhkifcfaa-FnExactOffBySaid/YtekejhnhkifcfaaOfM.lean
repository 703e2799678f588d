/-
  No statement is proved here: by how much two heaps' shares differ, as numbers; no condition.
-/
import Derived.Test.YtekejhnhkifcfaaLc
import Derived.Test.YtekejhnhkifcfaaMeS
namespace Go.Proofs.Ytekejhnhkifcfaa
open Go.RowKit

/-- The sum of the sizes of differences. -/
def dsum (f g : Nat → Int) : Nat → Int
  | 0 => 0
  | k + 1 => dsum f g k + ((f k - g k).natAbs : Int)
theorem dsum_succ (f g : Nat → Int) (k : Nat) : dsum f g (k + 1) = dsum f g k + ((f k - g k).natAbs : Int) := rfl
theorem dsum_bd {f g : Nat → Int} {c : Int} (hf : ∀ k, k < 8 → 0 ≤ f k ∧ f k ≤ c) (hg : ∀ k, k < 8 → 0 ≤ g k ∧ g k ≤ c) : ∀ {k : Nat}, k ≤ 8 → 0 ≤ dsum f g k ∧ dsum f g k ≤ (k : Int) * c
  | 0, _ => by simp [dsum]
  | k + 1, hk => by
    have ih := dsum_bd hf hg (k := k) (by omega)
    have a := hf k (by omega)
    have b := hg k (by omega)
    have e : ((k + 1 : Nat) : Int) * c = (k : Int) * c + c := by push_cast; rw [Int.add_mul, Int.one_mul]
    rw [dsum_succ, e]
    omega
theorem dsum_congr {f g f2 g2 : Nat → Int} : ∀ {k : Nat}, (∀ j, j < k → f j = f2 j ∧ g j = g2 j) → dsum f g k = dsum f2 g2 k
  | 0, _ => rfl
  | k + 1, h => by rw [dsum_succ, dsum_succ, dsum_congr (fun j hj => h j (by omega)), (h k (by omega)).1, (h k (by omega)).2]
theorem dsum_mul (c : Int) (hc : 0 ≤ c) (f g : Nat → Int) : ∀ k, dsum (fun j => c * f j) (fun j => c * g j) k = c * dsum f g k
  | 0 => by simp [dsum]
  | k + 1 => by
    rw [dsum_succ, dsum_succ, dsum_mul c hc f g k, Int.mul_add, ← Int.mul_sub, Int.natAbs_mul]
    push_cast
    rw [show ((c.natAbs : Nat) : Int) = c by omega]
theorem low_mul {c n d : Int} (hc : 0 < c) (hd : 0 < d) : lowN (c * n) (c * d) = lowN n d ∧ lowD (c * n) (c * d) = lowD n d := by
  have hcd : 0 < c * d := Int.mul_pos hc hd
  have hg : (Int.gcd (c * n) (c * d) : Int) = c * (Int.gcd n d : Int) := by
    rw [Int.gcd_mul_left]
    push_cast
    rw [show ((c.natAbs : Nat) : Int) = c by omega]
  have hgp := gcd_pos_right (n := n) (d := d) (by omega)
  unfold lowN lowD
  rw [if_neg (by omega), if_neg (by omega), hg]
  exact ⟨Int.mul_tdiv_mul_of_pos _ _ hc, Int.mul_tdiv_mul_of_pos _ _ hc⟩
/-- What OffBy answers. -/
def offF (a b : Nat → Int) : Int × Int × Int :=
  if okH a = true ∧ okH b = true then (if sumTo a 8 = 0 ∨ sumTo b 8 = 0 then (0, 0, 6)
    else (lowN (dsum (fun k => a k * sumTo b 8) (fun k => b k * sumTo a 8) 8) (sumTo a 8 * sumTo b 8), lowD (dsum (fun k => a k * sumTo b 8) (fun k => b k * sumTo a 8) 8) (sumTo a 8 * sumTo b 8), 0)) else (0, 0, 1)
theorem offF_bad {a b : Nat → Int} (h : ¬ (okH a = true ∧ okH b = true)) : offF a b = (0, 0, 1) := if_neg h
theorem offF_none {a b : Nat → Int} (h1 : okH a = true) (h2 : okH b = true) (h : sumTo a 8 = 0 ∨ sumTo b 8 = 0) : offF a b = (0, 0, 6) := by rw [offF, if_pos ⟨h1, h2⟩, if_pos h]
theorem offF_yes {a b : Nat → Int} (h1 : okH a = true) (h2 : okH b = true) (h : ¬ (sumTo a 8 = 0 ∨ sumTo b 8 = 0)) :
    offF a b = (lowN (dsum (fun k => a k * sumTo b 8) (fun k => b k * sumTo a 8) 8) (sumTo a 8 * sumTo b 8), lowD (dsum (fun k => a k * sumTo b 8) (fun k => b k * sumTo a 8) 8) (sumTo a 8 * sumTo b 8), 0) := by
  rw [offF, if_pos ⟨h1, h2⟩, if_neg h]
end Go.Proofs.Ytekejhnhkifcfaa
