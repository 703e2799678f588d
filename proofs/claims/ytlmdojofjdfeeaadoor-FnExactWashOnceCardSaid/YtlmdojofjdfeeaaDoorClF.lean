/-
  No statement is proved here: by how much a cloth felts, and the cloth behind a wash, in the program and in the document's own text; condition: both are valid.
-/
import Derived.Test.YtlmdojofjdfeeaaDoorClS
import Derived.Test.YtlmdojofjdfeeaaDoorMax
import Derived.Deep.RegionHeld3
namespace Go.Proofs.YtlmdojofjdfeeaaDoor
open Go.ChangeShapes Go.WideShapes Go.ChangeAt Go.RowKit

theorem min_any (a b : Int) (w : World) :
    Calls Tryd.prog 51 #[.int .i64 a, .int .i64 b] w fun e w' => e = .returned (.int .i64 (min a b)) ∧ w = w' := by
  by_cases h0 : a < b
  · go_enter Tryd.func51, Tryd.ntmps51
    go_wp2
    go_ret
    exact ⟨ret_int (by omega), rfl⟩
  · go_enter Tryd.func51, Tryd.ntmps51
    go_wp2
    go_ret
    exact ⟨ret_int (by omega), rfl⟩

theorem fel_hot {f h t r : Int} (e : h < t) : fel f h t r = min (t - h + r) (9 - f) := by unfold fel; rw [if_pos e]
theorem fel_cool {f h t r : Int} (e : ¬ h < t) : fel f h t r = min (r / 3) (9 - f) := by unfold fel; rw [if_neg e]

set_option maxHeartbeats 1000000 in
theorem implFelts_any (x y d f h t r c : Int) (w : World) (hf : 0 ≤ f ∧ f ≤ 9) (hh : 0 ≤ h ∧ h ≤ 9) (ht : 0 ≤ t ∧ t ≤ 9) (hr : 0 ≤ r ∧ r ≤ 9) :
    Calls Tryd.prog 42 #[.agg #[.int .i16 x, .int .i16 y, .int .i8 d, .int .i8 f, .int .i8 h], .agg #[.int .i8 t, .int .i8 r, .int .i8 c]] w fun e w' => e = .returned (.int .i64 (fel f h t r)) ∧ Below w.heap.size w w' := by
  obtain ⟨f1, f2⟩ := hf
  obtain ⟨h1, h2⟩ := hh
  obtain ⟨t1, t2⟩ := ht
  obtain ⟨r1, r2⟩ := hr
  by_cases hx : h < t
  · rw [fel_hot hx]
    by_cases hy : t - h + r ≤ 9 - f
    · rw [Int.min_eq_left hy]
      go_enter Tryd.func42, Tryd.ntmps42
      go_wp2
      go_ret
      exact ⟨ret_int (by omega), by go_grown⟩
    · rw [Int.min_eq_right (by omega)]
      go_enter Tryd.func42, Tryd.ntmps42
      go_wp2
      go_ret
      exact ⟨ret_int (by omega), by go_grown⟩
  · rw [fel_cool hx]
    by_cases hy : r / 3 ≤ 9 - f
    · rw [Int.min_eq_left hy]
      go_enter Tryd.func42, Tryd.ntmps42
      go_wp2
      go_ret
      exact ⟨ret_int (by omega), by go_grown⟩
    · rw [Int.min_eq_right (by omega)]
      go_enter Tryd.func42, Tryd.ntmps42
      go_wp2
      go_ret
      exact ⟨ret_int (by omega), by go_grown⟩

set_option maxHeartbeats 1000000 in
theorem shrunk_any (s k : Int) (w : World) (hs : 1 ≤ s ∧ s ≤ 1000) (hk : 0 ≤ k ∧ k ≤ 9) :
    Calls Tryd.prog 55 #[.int .i16 s, .int .i64 k] w fun e w' => e = .returned (.int .i16 (shr s k)) ∧ w = w' := by
  obtain ⟨b1, b2, b3, b4⟩ := shr_bd hs hk
  obtain ⟨s1, s2⟩ := hs
  obtain ⟨k1, k2⟩ := hk
  unfold shr at *
  go_enter Tryd.func55, Tryd.ntmps55
  go_wp2
  all_goals
    go_ret
    exact ⟨ret_int (by omega), rfl⟩
end Go.Proofs.YtlmdojofjdfeeaaDoor
