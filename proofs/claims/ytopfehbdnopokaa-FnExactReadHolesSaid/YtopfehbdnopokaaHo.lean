/-
  No statement is proved here: numbers of holes; no condition.
-/
import Derived.Test.YtopfehbdnopokaaBase
import Derived.IntWalk
namespace Go.Proofs.Ytopfehbdnopokaa
open Go.RowKit

/-- Eight bytes; as a value. -/
def Bytes8 (h : Nat → Int) : Prop := ∀ j, j < 8 → 0 ≤ h j ∧ h j ≤ 255
def bitH (n : Int) (x : Nat) : Bool := n.toNat.testBit x
/-- A hole; none beyond the sides. -/
def hasH (h : Nat → Int) (x y : Int) : Bool := decide (0 ≤ x ∧ x < 8 ∧ 0 ≤ y ∧ y < 8) && bitH (h y.toNat) x.toNat
theorem hasH_in {h : Nat → Int} {x y : Nat} (hx : x < 8) (hy : y < 8) : hasH h x y = bitH (h y) x := by
  unfold hasH
  rw [decide_eq_true (by omega)]
  simp
theorem hasH_out {h : Nat → Int} {x y : Int} (e : ¬ (0 ≤ x ∧ x < 8 ∧ 0 ≤ y ∧ y < 8)) : hasH h x y = false := by
  unfold hasH
  rw [decide_eq_false e]
  simp
def b2i (b : Bool) : Int := if b = true then 1 else 0
theorem b2i_t : b2i true = 1 := rfl
theorem b2i_f : b2i false = 0 := rfl
theorem b2i_bd (b : Bool) : 0 ≤ b2i b ∧ b2i b ≤ 1 := by cases b <;> simp [b2i]
/-- How many of the four beside are holes. -/
def cnt4 (h : Nat → Int) (x y : Int) : Int := b2i (hasH h x (y + -1)) + b2i (hasH h (x + -1) y) + b2i (hasH h (x + 1) y) + b2i (hasH h x (y + 1))
def newH (h : Nat → Int) (need : Int) (x y : Int) : Bool := hasH h x y || decide (need ≤ cnt4 h x y)
/-- The number of the first k bits. -/
def numTo (f : Nat → Bool) : Nat → Nat
  | 0 => 0
  | k + 1 => numTo f k + if f k = true then 2 ^ k else 0
theorem numTo_congr {f g : Nat → Bool} : ∀ k, (∀ j, j < k → f j = g j) → numTo f k = numTo g k
  | 0, _ => rfl
  | k + 1, h => by rw [numTo, numTo, numTo_congr k fun j hj => h j (by omega), h k (by omega)]
theorem numTo_lt (f : Nat → Bool) : ∀ k, numTo f k < 2 ^ k
  | 0 => by simp [numTo]
  | k + 1 => by
    have := numTo_lt f k
    rw [numTo, Nat.pow_succ]
    split <;> omega
theorem numTo_bits_all : ∀ a : Fin 256, numTo (fun i => a.val.testBit i) 8 = a.val := by decide +kernel
theorem numTo_bits {n : Int} (h : 0 ≤ n ∧ n ≤ 255) : (numTo (fun i => bitH n i) 8 : Int) = n := by
  have := numTo_bits_all ⟨n.toNat, by omega⟩
  unfold bitH
  simp only at this
  rw [this]
  omega
/-- Holes a week later. -/
def weekF (h : Nat → Int) (need : Int) : Nat → Int := fun y => (numTo (fun x => newH h need x y) 8 : Nat)
theorem weekF_bytes (h : Nat → Int) (need : Int) : Bytes8 (weekF h need) := fun j _ => by
  have := numTo_lt (fun x => newH h need x j) 8
  unfold weekF
  omega
/-- One bit more. -/
def upB (f g : Nat → Bool) (x : Nat) (i : Nat) : Bool := if i < x then g i else f i
theorem or_all : ∀ (x : Fin 8) (a : Fin 256), bits BinOp.or IntKind.u8 (a.val : Int) ((2 ^ x.val : Nat) : Int) = (numTo (fun i => a.val.testBit i || i == x.val) 8 : Nat) := by decide +kernel
theorem bitH_numTo_all : ∀ (b0 b1 b2 b3 b4 b5 b6 b7 : Bool) (i : Fin 8), (numTo (fun j => [b0, b1, b2, b3, b4, b5, b6, b7].getD j false) 8).testBit i.val = [b0, b1, b2, b3, b4, b5, b6, b7].getD i.val false := by decide +kernel
theorem testBit_numTo (f : Nat → Bool) {i : Nat} (hi : i < 8) : (numTo f 8).testBit i = f i := by
  have e : numTo f 8 = numTo (fun j => [f 0, f 1, f 2, f 3, f 4, f 5, f 6, f 7].getD j false) 8 := numTo_congr 8 fun j hj => by
    have : j = 0 ∨ j = 1 ∨ j = 2 ∨ j = 3 ∨ j = 4 ∨ j = 5 ∨ j = 6 ∨ j = 7 := by omega
    rcases this with rfl | rfl | rfl | rfl | rfl | rfl | rfl | rfl <;> rfl
  rw [e, bitH_numTo_all _ _ _ _ _ _ _ _ ⟨i, hi⟩]
  have : i = 0 ∨ i = 1 ∨ i = 2 ∨ i = 3 ∨ i = 4 ∨ i = 5 ∨ i = 6 ∨ i = 7 := by omega
  rcases this with rfl | rfl | rfl | rfl | rfl | rfl | rfl | rfl <;> rfl
theorem and_all : ∀ (x : Fin 8) (a : Fin 256), (bits BinOp.and IntKind.u8 ((a.val : Int) / 2 ^ x.val) 1 == 1) = a.val.testBit x.val := by decide +kernel
theorem and_bit {n : Int} (hn : 0 ≤ n ∧ n ≤ 255) {x : Nat} (hx : x < 8) : (bits BinOp.and IntKind.u8 (n / 2 ^ x) 1 == 1) = bitH n x := by
  have h := and_all ⟨x, hx⟩ ⟨n.toNat, by omega⟩
  have e : ((n.toNat : Nat) : Int) = n := by omega
  simp only [e] at h
  exact h
/-- Of the four beside, the first k in the program's order. -/
def cntTo (h : Nat → Int) (x y : Int) : Nat → Int
  | 0 => 0
  | 1 => b2i (hasH h x (y + -1))
  | 2 => b2i (hasH h x (y + -1)) + b2i (hasH h (x + -1) y)
  | 3 => b2i (hasH h x (y + -1)) + b2i (hasH h (x + -1) y) + b2i (hasH h (x + 1) y)
  | _ => cnt4 h x y
theorem cntTo_s0 (h : Nat → Int) (x y : Int) : cntTo h x y 1 = 0 + b2i (hasH h x (y + -1)) := by simp [cntTo]
theorem cntTo_s1 (h : Nat → Int) (x y : Int) : cntTo h x y 2 = cntTo h x y 1 + b2i (hasH h (x + -1) y) := rfl
theorem cntTo_s2 (h : Nat → Int) (x y : Int) : cntTo h x y 3 = cntTo h x y 2 + b2i (hasH h (x + 1) y) := rfl
theorem cntTo_s3 (h : Nat → Int) (x y : Int) : cntTo h x y 4 = cntTo h x y 3 + b2i (hasH h x (y + 1)) := rfl
theorem cntTo_bd (h : Nat → Int) (x y : Int) (k : Nat) : 0 ≤ cntTo h x y k ∧ cntTo h x y k ≤ 4 := by
  have a := b2i_bd (hasH h x (y + -1))
  have b := b2i_bd (hasH h (x + -1) y)
  have c := b2i_bd (hasH h (x + 1) y)
  have d := b2i_bd (hasH h x (y + 1))
  unfold cntTo
  split <;> (try unfold cnt4) <;> omega
/-- Setting bit x. -/
theorem or_num (f : Nat → Bool) {x : Nat} (hx : x < 8) : bits BinOp.or IntKind.u8 ((numTo f 8 : Nat) : Int) ((2 ^ x : Nat) : Int) = (numTo (fun i => f i || i == x) 8 : Nat) := by
  have h := or_all ⟨x, hx⟩ ⟨numTo f 8, numTo_lt f 8⟩
  rw [h]
  congr 1
  exact numTo_congr 8 fun j hj => by simp only [testBit_numTo f hj]
end Go.Proofs.Ytopfehbdnopokaa
