/-
  No statement is proved here: what the functions on fractions and on greatest common divisors return, as integers; conditions: the arguments are int64s, as stated at each.
-/
import Derived.Test.YtekejhnhkifcfaaBase
import Derived.IntWalk
namespace Go.Proofs.Ytekejhnhkifcfaa
open Go.RowKit

/-- The fraction n / d in its lowest terms (d is not 0). -/
def lowN (n d : Int) : Int := n.tdiv (if d < 0 then -(Int.gcd n d : Int) else (Int.gcd n d : Int))
def lowD (n d : Int) : Int := d.tdiv (if d < 0 then -(Int.gcd n d : Int) else (Int.gcd n d : Int))

theorem gcd_pos_right {n d : Int} (h : d ≠ 0) : (0 : Int) < (Int.gcd n d : Int) := by
  have := Int.gcd_pos_of_ne_zero_right n h
  omega

theorem gcd_step (x y : Int) (hx : 0 ≤ x) (hy : 0 < y) : Int.gcd y (x % y) = Int.gcd x y := by
  obtain ⟨m, rfl⟩ := Int.eq_ofNat_of_zero_le hx
  obtain ⟨n, rfl⟩ := Int.eq_ofNat_of_zero_le (Int.le_of_lt hy)
  rw [← Int.natCast_emod]
  show Nat.gcd n (m % n) = Nat.gcd m n
  rw [Nat.gcd_comm n (m % n), ← Nat.gcd_rec, Nat.gcd_comm]

theorem low_neg (n d : Int) (h : d < 0) : lowN (-n) (-d) = lowN n d ∧ lowD (-n) (-d) = lowD n d := by
  unfold lowN lowD
  rw [if_neg (by omega), if_pos h, Int.neg_gcd, Int.gcd_neg]
  simp [Int.tdiv_neg, Int.neg_tdiv]
end Go.Proofs.Ytekejhnhkifcfaa
