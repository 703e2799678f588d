/-
  No statement is proved here: two fractions are compared field by field; no condition.
-/
import Derived.Test.YthokpdhknohpoaaMakes
namespace Go.Proofs.Ythokpdhknohpoaa
open Go.RowKit

theorem eqFrac_in (a b c d : Int) (w : World) : (Op.equalIn 10000 23 (.agg #[.int .i64 a, .int .i64 b]) (.agg #[.int .i64 c, .int .i64 d])).run Try.prog w = .ok (decide (a = c ∧ b = d)) w := by
  have hu : Try.prog.underlying 23 = some (.struct (Try.prog.fieldsOf 23)) := by kernel_rfl
  have hp : Try.prog.stoodInHeld 23 = false := by kernel_rfl
  rw [run_equalIn_struct w 9999 _ _ _ hu hp]
  by_cases h1 : a = c
  · by_cases h2 : b = d
    · subst h1
      subst h2
      simp [go_sem]
    · simp [go_sem, h1, h2]
  · simp [go_sem, h1]
end Go.Proofs.Ythokpdhknohpoaa
