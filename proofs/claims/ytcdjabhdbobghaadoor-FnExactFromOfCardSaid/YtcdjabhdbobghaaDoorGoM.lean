/-
  No statement is proved here: a loop of a fabric, and the stitch that takes it, as numbers; no condition.
-/
import Derived.Test.YtcdjabhdbobghaaDoorKnit
import Derived.Test.YtcdjabhdbobghaaDoorIn
namespace Go.Proofs.YtcdjabhdbobghaaDoor
open Go.RowKit

/-- Whether a valid fabric has a loop. -/
def isLoop (c : Int) (L : List ByteArray) (r a : Int) : Bool := inB r 0 (L.length : Int) && inB a 0 (wd c L r.toNat - 1)
theorem isLoop_row {c : Int} {L : List ByteArray} {r a : Int} (h : inB r 0 (L.length : Int) = false) : isLoop c L r a = false := by unfold isLoop; rw [h]; rfl
theorem isLoop_at {c : Int} {L : List ByteArray} {r a : Int} (h : inB r 0 (L.length : Int) = true) : isLoop c L r a = inB a 0 (wd c L r.toNat - 1) := by unfold isLoop; rw [h]; rfl
/-- The code of a fabric and a loop. -/
def loopF (c : Int) (L : List ByteArray) (r a : Int) : Int := if okF c L = true then (if isLoop c L r a = true then 0 else 2) else 1
/-- The first stitch that takes a loop: one for each stitch that takes none of the loops up to a. -/
def takerTo (s : ByteArray) (a : Int) : Nat → Int
  | 0 => -1
  | k + 1 => if takerTo s a k < 0 ∧ a < sumB tk s (k + 1) then (k : Int) else takerTo s a k
theorem takerTo_none {s : ByteArray} {a : Int} : ∀ {k : Nat}, (∀ j, j < k → sumB tk s (j + 1) ≤ a) → takerTo s a k = -1
  | 0, _ => rfl
  | k + 1, h => by
    rw [takerTo, takerTo_none (fun j hj => h j (by omega)), if_neg]
    rintro ⟨_, h2⟩
    have := h k (by omega)
    omega
theorem takerTo_at {s : ByteArray} {a : Int} {k : Nat} (h : ∀ j, j < k → sumB tk s (j + 1) ≤ a) (hk : a < sumB tk s (k + 1)) : ∀ m, k < m → takerTo s a m = (k : Int)
  | 0, hm => absurd hm (Nat.not_lt_zero k)
  | m + 1, hm => by
    by_cases e : m = k
    · subst e
      rw [takerTo, takerTo_none h, if_pos ⟨by omega, hk⟩]
    · rw [takerTo, takerTo_at h hk m (by omega), if_neg]
      rintro ⟨h1, _⟩
      omega
/-- What GoesTo answers. -/
def goesF (c : Int) (L : List ByteArray) (r a : Int) : Int × Int :=
  if loopF c L r a = 0 then (if r = (L.length : Int) then (0, 6) else (takerTo (rowAt L r.toNat) a (rowAt L r.toNat).size, 0)) else (0, loopF c L r a)
end Go.Proofs.YtcdjabhdbobghaaDoor
