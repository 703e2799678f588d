/-
  No statement is proved here: places behind each move, as numbers; no condition.
-/
import Derived.Test.YtphinokacggnfaaNetM
import Derived.Test.YtphinokacggnfaaOkP
import Derived.Test.YtphinokacggnfaaPlHeld
namespace Go.Proofs.Ytphinokacggnfaa
open Go.ChangeShapes Go.WideShapes Go.ChangeAt Go.RowKit

/-- The places behind the first k moves. -/
def behind (f : Nat → Int) (ms : List Mv) (k : Nat) : List (Nat → Int) := (List.range k).map fun j => bringTo f ms (j + 1)
theorem behind_length (f : Nat → Int) (ms : List Mv) (k : Nat) : (behind f ms k).length = k := by simp [behind]
theorem behind_succ (f : Nat → Int) (ms : List Mv) (k : Nat) : behind f ms (k + 1) = behind f ms k ++ [bringTo f ms (k + 1)] := by simp [behind, List.range_succ]
theorem behind_get (f : Nat → Int) (ms : List Mv) (k j : Nat) (h : j < k) : atPl (behind f ms k) j = bringTo f ms (j + 1) := by simp [atPl, behind, List.getD, h]
/-- The index of the first move that cannot be. -/
def wrongAt (f : Nat → Int) (ms : List Mv) : Option Nat := (List.range ms.length).find? fun j => !okP (bringTo f ms (j + 1))
def fineTo (f : Nat → Int) (ms : List Mv) (k : Nat) : Prop := ∀ j, j < k → okP (bringTo f ms (j + 1)) = true
theorem fineTo_zero (f : Nat → Int) (ms : List Mv) : fineTo f ms 0 := fun j hj => by omega
theorem fineTo_succ {f : Nat → Int} {ms : List Mv} {k : Nat} (h : fineTo f ms k) (h1 : okP (bringTo f ms (k + 1)) = true) : fineTo f ms (k + 1) := fun j hj => by
  by_cases e : j = k
  · subst e
    exact h1
  · exact h j (by omega)
theorem wrongAt_some {f : Nat → Int} {ms : List Mv} {k : Nat} (hk : k < ms.length) (h : fineTo f ms k) (h1 : okP (bringTo f ms (k + 1)) = false) : wrongAt f ms = some k := by
  unfold wrongAt
  rw [List.find?_range_eq_some]
  refine ⟨by simp [h1], by simpa using hk, fun j hj => ?_⟩
  simp [h j hj]
theorem wrongAt_none {f : Nat → Int} {ms : List Mv} (h : fineTo f ms ms.length) : wrongAt f ms = none := by
  unfold wrongAt
  rw [List.find?_eq_none]
  intro j hj
  have : j < ms.length := by simpa using hj
  simp [h j this]
/-- What the three answer. -/
def placesF (f : Nat → Int) (ms : List Mv) : List (Nat → Int) × Int := if okP f = true ∧ isMvs ms = true then (match wrongAt f ms with | some _ => ([], 4) | none => (behind f ms ms.length, 0)) else ([], 1)
def makeF (f : Nat → Int) (ms : List Mv) : (Nat → Int) × Int := if okP f = true ∧ isMvs ms = true then (match wrongAt f ms with | some _ => (fun _ => 0, 4) | none => (bringTo f ms ms.length, 0)) else (fun _ => 0, 1)
def firstF (f : Nat → Int) (ms : List Mv) : Int × Int := if okP f = true ∧ isMvs ms = true then (match wrongAt f ms with | some k => ((k : Int), 0) | none => (0, 6)) else (0, 1)
theorem at_no1 {f : Nat → Int} {ms : List Mv} (h : okP f = false) : placesF f ms = ([], 1) ∧ makeF f ms = (fun _ => 0, 1) ∧ firstF f ms = (0, 1) := by simp [placesF, makeF, firstF, h]
theorem at_no2 {f : Nat → Int} {ms : List Mv} (h : isMvs ms = false) : placesF f ms = ([], 1) ∧ makeF f ms = (fun _ => 0, 1) ∧ firstF f ms = (0, 1) := by simp [placesF, makeF, firstF, h]
theorem at_some {f : Nat → Int} {ms : List Mv} {k : Nat} (h1 : okP f = true) (h2 : isMvs ms = true) (h : wrongAt f ms = some k) : placesF f ms = ([], 4) ∧ makeF f ms = (fun _ => 0, 4) ∧ firstF f ms = ((k : Int), 0) := by simp [placesF, makeF, firstF, h1, h2, h]
theorem at_none {f : Nat → Int} {ms : List Mv} (h1 : okP f = true) (h2 : isMvs ms = true) (h : wrongAt f ms = none) : placesF f ms = (behind f ms ms.length, 0) ∧ makeF f ms = (bringTo f ms ms.length, 0) ∧ firstF f ms = (0, 6) := by simp [placesF, makeF, firstF, h1, h2, h]
theorem placesF_len {f : Nat → Int} {ms : List Mv} : (placesF f ms).1.length ≤ 2097152 := by
  cases h1 : okP f with
  | false => rw [(at_no1 h1).1]; simp
  | true =>
    cases h2 : isMvs ms with
    | false => rw [(at_no2 h2).1]; simp
    | true =>
      cases h : wrongAt f ms with
      | some k => rw [(at_some h1 h2 h).1]; simp
      | none =>
        rw [(at_none h1 h2 h).1]
        have := (isMvs_of h2).2
        show (behind f ms ms.length).length ≤ _
        rw [behind_length]
        omega
theorem okP_range {f : Nat → Int} (hr : ∀ j, j < 5 → 0 ≤ f j ∧ f j ≤ 1000000) : okP f = true := by
  unfold okP
  rw [inB_mk (hr 0 (by omega)), inB_mk (hr 1 (by omega)), inB_mk (hr 2 (by omega)), inB_mk (hr 3 (by omega)), inB_mk (hr 4 (by omega))]
  rfl
/-- Beyond the five places a function of places says nothing. -/
def cut5 (f : Nat → Int) : Nat → Int := fun j => if j < 5 then f j else 0
theorem cut5_in {f : Nat → Int} (h : okP f = true) : Within (cut5 f) 1000000 := fun j => by
  unfold cut5
  split
  · rename_i hj
    have := okP_in h j hj
    omega
  · omega
theorem vals_one (f : Nat → Int) : ∀ u ∈ [Value.int .i32 (f 0), Value.int .i32 (f 1), Value.int .i32 (f 2), Value.int .i32 (f 3), Value.int .i32 (f 4)], u.oneCell' = true := by intro u hu; simp at hu; rcases hu with rfl | rfl | rfl | rfl | rfl <;> rfl
end Go.Proofs.Ytphinokacggnfaa
