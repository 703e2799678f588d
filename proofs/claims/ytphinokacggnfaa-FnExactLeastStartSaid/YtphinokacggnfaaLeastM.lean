/-
  No statement is proved here: the least places with which moves can be made, as numbers; no condition.
-/
import Derived.Test.YtphinokacggnfaaNetM
namespace Go.Proofs.Ytphinokacggnfaa
open Go.ChangeShapes Go.WideShapes Go.ChangeAt Go.RowKit

/-- The first i places are at the greater number. -/
def mid (f g : Nat → Int) (i : Nat) : Nat → Int := fun j => if j < i then max (f j) (-(g j)) else f j
theorem mid_zero (f g : Nat → Int) : mid f g 0 = f := by funext j; simp [mid]
theorem mid_step (f g : Nat → Int) (i : Nat) : putP (mid f g i) i (max (mid f g i i) (-(g i))) = mid f g (i + 1) := by
  funext j
  unfold putP mid
  by_cases h1 : j = i
  · subst h1
    simp
  · by_cases h2 : j < i
    · rw [if_neg h1, if_pos h2, if_pos (by omega)]
    · rw [if_neg h1, if_neg h2, if_neg (by omega)]
abbrev net0 (ms : List Mv) (k : Nat) : Nat → Int := bringTo (fun _ => 0) ms k
def leastTo (ms : List Mv) : Nat → Nat → Int
  | 0 => fun _ => 0
  | k + 1 => mid (leastTo ms k) (net0 ms (k + 1)) 5
theorem mid_in {f g : Nat → Int} {c : Int} (hf : ∀ j, 0 ≤ f j ∧ f j ≤ c) (hg : Within g c) (i : Nat) : ∀ j, 0 ≤ mid f g i j ∧ mid f g i j ≤ c := fun j => by
  have := hf j
  have := hg j
  unfold mid
  split <;> omega
theorem leastTo_in {ms : List Mv} (h : allMv ms = true) : ∀ k, k ≤ ms.length → ∀ j, 0 ≤ leastTo ms k j ∧ leastTo ms k j ≤ 5000 * (k : Int)
  | 0, _, j => by simp [leastTo]
  | k + 1, hk, j => by
    have ih := leastTo_in h k (by omega)
    have hb : Within (net0 ms (k + 1)) (0 + 5000 * ((k + 1 : Nat) : Int)) := bringTo_in (c := 0) (by omega) zeroP_in h (k + 1) hk
    exact mid_in (c := 5000 * ((k + 1 : Nat) : Int)) (fun j => by have := ih j; omega) (fun j => by have := hb j; omega) 5 j
theorem leastTo_ge {ms : List Mv} : ∀ k j, j < 5 → -(net0 ms k j) ≤ leastTo ms k j
  | 0, j, _ => by simp [leastTo, net0, bringTo]
  | k + 1, j, hj => by
    show _ ≤ mid (leastTo ms k) (net0 ms (k + 1)) 5 j
    unfold mid
    rw [if_pos hj]
    omega
theorem least_step {f L : Nat → Int} {p q : Nat} {g : Int} (hpq : p ≠ q) (hg : 0 ≤ g) (hL : ∀ j, j < 5 → -(f j) ≤ L j) : ∀ j, j < 5 → putP L p (max (L p) (-(f p - g))) j = mid L (bringF f ((p : Int), (q : Int), g)) 5 j := fun j hj => by
  rw [bringF_eq hpq]
  unfold mid
  rw [if_pos hj]
  have := hL j hj
  unfold putP
  by_cases h1 : j = p
  · subst h1
    rw [if_pos rfl, if_neg hpq, if_pos rfl]
  · by_cases h2 : j = q
    · subst h2
      rw [if_neg h1, if_pos rfl]
      omega
    · rw [if_neg h1, if_neg h2, if_neg h1]
      omega
/-- What LeastStart answers. -/
def leastF (ms : List Mv) : (Nat → Int) × Int := if isMvs ms = true then (leastTo ms ms.length, 0) else (fun _ => 0, 1)
theorem leastF_yes {ms : List Mv} (h : isMvs ms = true) : leastF ms = (leastTo ms ms.length, 0) := if_pos h
theorem leastF_no {ms : List Mv} (h : isMvs ms = false) : leastF ms = (fun _ => 0, 1) := if_neg (by rw [h]; simp)
end Go.Proofs.Ytphinokacggnfaa
