/-
  No statement is proved here: numbers of cloths and of programs; no condition.
-/
import Derived.Test.YtlmdojofjdfeeaaDoorIn
namespace Go.Proofs.YtlmdojofjdfeeaaDoor
open Go.RowKit

/-- Cloths and programs that are valid. -/
def okC (x y d f h : Int) : Bool := inB x 1 1000 && inB y 1 1000 && inB d 0 9 && inB f 0 9 && inB h 0 9
def okP (t r c : Int) : Bool := inB t 0 9 && inB r 0 9 && inB c 0 9
theorem okC_of {x y d f h : Int} (e : okC x y d f h = true) : (1 ≤ x ∧ x ≤ 1000) ∧ (1 ≤ y ∧ y ≤ 1000) ∧ (0 ≤ d ∧ d ≤ 9) ∧ (0 ≤ f ∧ f ≤ 9) ∧ 0 ≤ h ∧ h ≤ 9 := by
  simp only [okC, Bool.and_eq_true] at e
  obtain ⟨⟨⟨⟨a, b⟩, c⟩, d⟩, e⟩ := e
  exact ⟨inB_of a, inB_of b, inB_of c, inB_of d, inB_of e⟩
theorem okP_of {t r c : Int} (e : okP t r c = true) : (0 ≤ t ∧ t ≤ 9) ∧ (0 ≤ r ∧ r ≤ 9) ∧ 0 ≤ c ∧ c ≤ 9 := by
  simp only [okP, Bool.and_eq_true] at e
  obtain ⟨⟨a, b⟩, c⟩ := e
  exact ⟨inB_of a, inB_of b, inB_of c⟩
/-- By how much a cloth felts: f its felt, h what it bears, t the heat, r the rub. -/
def fel (f h t r : Int) : Int := min (if h < t then t - h + r else r / 3) (9 - f)
/-- A side behind it. -/
def shr (s k : Int) : Int := max 1 (s * (100 - 2 * k) / 100)
theorem fel_bd {f h t r : Int} (hf : 0 ≤ f ∧ f ≤ 9) (hr : 0 ≤ r ∧ r ≤ 9) : 0 ≤ fel f h t r ∧ fel f h t r ≤ 9 - f := by
  unfold fel
  split <;> omega
theorem shr_bd {s k : Int} (hs : 1 ≤ s ∧ s ≤ 1000) (hk : 0 ≤ k ∧ k ≤ 9) : 1 ≤ shr s k ∧ shr s k ≤ 1000 ∧ 0 ≤ s * (100 - 2 * k) ∧ s * (100 - 2 * k) ≤ 100000 := by
  have h1 : 0 ≤ s * (100 - 2 * k) := Int.mul_nonneg (by omega) (by omega)
  have h2 : s * (100 - 2 * k) ≤ s * 100 := Int.mul_le_mul_of_nonneg_left (by omega) (by omega)
  refine ⟨?_, ?_, h1, by omega⟩ <;> unfold shr <;> omega
/-- A cloth of any int16s and int8s; a program. -/
def Is8 (n : Int) : Prop := -128 ≤ n ∧ n ≤ 127
def IsS (n : Int) : Prop := -32768 ≤ n ∧ n ≤ 32767
end Go.Proofs.YtlmdojofjdfeeaaDoor
