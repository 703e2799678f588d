/-
  No statement is proved here: the text of holes, as lists of bytes; no condition.
-/
import Derived.Test.YtopfehbdnopokaaHoA
import Derived.Test.YtopfehbdnopokaaTextG
namespace Go.Proofs.Ytopfehbdnopokaa
open Go.ChangeShapes Go.WideShapes Go.ChangeAt Go.RowKit

/-- The letter of a place; the text up to a place of a row. -/
def chH (h : Nat → Int) (x y : Nat) : UInt8 := if hasH h x y = true then 111 else 46
def rowH (h : Nat → Int) (y : Nat) : Nat → List UInt8
  | 0 => []
  | x + 1 => rowH h y x ++ [chH h x y]
def txH (h : Nat → Int) : Nat → List UInt8
  | 0 => []
  | y + 1 => (txH h y ++ rowH h y 8) ++ [10]
def atH (h : Nat → Int) (y x : Nat) : List UInt8 := txH h y ++ rowH h y x
theorem atH_zero (h : Nat → Int) (y : Nat) : atH h y 0 = txH h y := List.append_nil _
theorem atH_hole {h : Nat → Int} {y x : Nat} (hh : hasH h x y = true) : atH h y (x + 1) = atH h y x ++ [111] := by
  unfold atH
  rw [rowH, ← List.append_assoc, chH, if_pos hh]
theorem atH_none {h : Nat → Int} {y x : Nat} (hh : hasH h x y = false) : atH h y (x + 1) = atH h y x ++ [46] := by
  unfold atH
  rw [rowH, ← List.append_assoc, chH, if_neg (by rw [hh]; simp)]
theorem atH_end (h : Nat → Int) (y : Nat) : txH h (y + 1) = atH h y 8 ++ [10] := rfl
theorem rowH_len (h : Nat → Int) (y : Nat) : ∀ x, (rowH h y x).length = x
  | 0 => rfl
  | x + 1 => by rw [rowH, List.length_append, rowH_len h y x]; rfl
theorem txH_len (h : Nat → Int) : ∀ y, (txH h y).length = 9 * y
  | 0 => rfl
  | y + 1 => by
    rw [txH, List.length_append, List.length_append, rowH_len, txH_len h y]
    simp
    omega
theorem atH_len (h : Nat → Int) (y x : Nat) : (atH h y x).length = 9 * y + x := by rw [atH, List.length_append, txH_len, rowH_len]
end Go.Proofs.Ytopfehbdnopokaa
