/-
  No statement is proved here: the shares of a heap as a list of fractions; no condition.
-/
import Derived.Test.YtekejhnhkifcfaaFcS
import Derived.Test.YtekejhnhkifcfaaSome
import Derived.Test.YtekejhnhkifcfaaMake
namespace Go.Proofs.Ytekejhnhkifcfaa
open Go.RowKit

/-- Eight numbers over one denominator, each in its lowest terms. -/
def lowL (n : Nat → Int) (d : Int) : List Fc := (List.range 8).map fun k => (lowN (n k) d, lowD (n k) d)
theorem lowL_length (n : Nat → Int) (d : Int) : (lowL n d).length = 8 := rfl
theorem lowL_at (n : Nat → Int) (d : Int) (k : Nat) (h : k < 8) : atFc (lowL n d) k = (lowN (n k) d, lowD (n k) d) := by
  unfold atFc lowL
  simp [List.getD, h]
theorem lowL_congr {n m : Nat → Int} (d : Int) (h : ∀ k, k < 8 → n k = m k) : lowL n d = lowL m d := by
  unfold lowL
  apply List.map_congr_left
  intro k hk
  rw [h k (List.mem_range.1 hk)]
theorem isFc (ys : List Fc) : ∀ j, IsFc (atFc ys j) := fun _ => ⟨trivial, trivial⟩
/-- What SharesOf answers. -/
def sharesF (z : Nat → Int) : List Fc × Int := if someF z = 0 then (lowL z (sumTo z 8), 0) else ([], someF z)
theorem sharesF_len (z : Nat → Int) : (sharesF z).1.length ≤ 8 := by
  unfold sharesF
  split
  · rw [lowL_length]; omega
  · simp
end Go.Proofs.Ytekejhnhkifcfaa
