/-
  No statement is proved here: which shades there are, as both texts tell it; no condition.
-/
import Derived.Test.YtapimmlhcbjgoaaIn
import Derived.Test.YtapimmlhcbjgoaaRec
namespace Go.Proofs.Ytapimmlhcbjgoaa
open Go.ChangeShapes Go.WideShapes Go.ChangeAt Go.RowKit

theorem implShade_any (a : Int) (w : World) : Calls Try.prog 37 #[.int .i8 a] w fun e w' => e = .returned (.bool (inB a 0 9)) ∧ w = w' := by
  by_cases h0 : 0 ≤ a
  · by_cases h1 : a < 10
    · rw [inB_mk ⟨h0, by omega⟩]
      go_enter Try.func37, Try.ntmps37
      go_wp2
      go_ret
      exact ⟨rfl, rfl⟩
    · rw [inB_mkno (by omega)]
      go_enter Try.func37, Try.ntmps37
      go_wp2
      go_ret
      exact ⟨rfl, rfl⟩
  · rw [inB_mkno (by omega)]
    go_enter Try.func37, Try.ntmps37
    go_wp2
    go_ret
    exact ⟨rfl, rfl⟩
theorem specShade_any (a : Int) (w : World) : Calls Try.prog 30 #[.int .i8 a] w fun e w' => e = .returned (.bool (inB a 0 9)) ∧ w = w' := by
  by_cases h0 : 0 ≤ a
  · by_cases h1 : a < 10
    · rw [inB_mk ⟨h0, by omega⟩]
      go_enter Try.func30, Try.ntmps30
      go_wp2
      go_ret
      exact ⟨rfl, rfl⟩
    · rw [inB_mkno (by omega)]
      go_enter Try.func30, Try.ntmps30
      go_wp2
      go_ret
      exact ⟨rfl, rfl⟩
  · rw [inB_mkno (by omega)]
    go_enter Try.func30, Try.ntmps30
    go_wp2
    go_ret
    exact ⟨rfl, rfl⟩
end Go.Proofs.Ytapimmlhcbjgoaa
