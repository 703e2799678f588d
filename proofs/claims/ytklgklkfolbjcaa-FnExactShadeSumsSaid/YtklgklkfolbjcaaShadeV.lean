/-
  No statement is proved here: which shades there are, as both texts tell it; no condition.
-/
import Derived.Test.YtklgklkfolbjcaaIn
import Derived.Test.YtklgklkfolbjcaaRec
namespace Go.Proofs.Ytklgklkfolbjcaa
open Go.ChangeShapes Go.WideShapes Go.ChangeAt Go.RowKit

theorem implShade_any (a : Int) (w : World) : Calls Try.prog 44 #[.int .i8 a] w fun e w' => e = .returned (.bool (inB a 0 9)) ∧ w = w' := by
  by_cases h0 : 0 ≤ a
  · by_cases h1 : a < 10
    · rw [inB_mk ⟨h0, by omega⟩]
      go_enter Try.func44, Try.ntmps44
      go_wp2
      go_ret
      exact ⟨rfl, rfl⟩
    · rw [inB_mkno (by omega)]
      go_enter Try.func44, Try.ntmps44
      go_wp2
      go_ret
      exact ⟨rfl, rfl⟩
  · rw [inB_mkno (by omega)]
    go_enter Try.func44, Try.ntmps44
    go_wp2
    go_ret
    exact ⟨rfl, rfl⟩
theorem specShade_any (a : Int) (w : World) : Calls Try.prog 60 #[.int .i8 a] w fun e w' => e = .returned (.bool (inB a 0 9)) ∧ w = w' := by
  by_cases h0 : 0 ≤ a
  · by_cases h1 : a < 10
    · rw [inB_mk ⟨h0, by omega⟩]
      go_enter Try.func60, Try.ntmps60
      go_wp2
      go_ret
      exact ⟨rfl, rfl⟩
    · rw [inB_mkno (by omega)]
      go_enter Try.func60, Try.ntmps60
      go_wp2
      go_ret
      exact ⟨rfl, rfl⟩
  · rw [inB_mkno (by omega)]
    go_enter Try.func60, Try.ntmps60
    go_wp2
    go_ret
    exact ⟨rfl, rfl⟩
end Go.Proofs.Ytklgklkfolbjcaa
