/-
  No statement is proved here: the greater of two numbers in the document's own text; no condition.
-/
import Derived.Test.YtekejhnhkifcfaaIn
namespace Go.Proofs.Ytekejhnhkifcfaa
open Go.RowKit

theorem max_any (a b : Int) (w : World) :
    Calls Try.prog 61 #[.int .i64 a, .int .i64 b] w fun e w' => e = .returned (.int .i64 (max a b)) ∧ w = w' := by
  by_cases h0 : b < a
  · go_enter Try.func61, Try.ntmps61
    go_wp2
    go_ret
    exact ⟨ret_int (by omega), rfl⟩
  · go_enter Try.func61, Try.ntmps61
    go_wp2
    go_ret
    exact ⟨ret_int (by omega), rfl⟩

theorem max_neg (n : Int) : max n (-n) = (n.natAbs : Int) := by omega
end Go.Proofs.Ytekejhnhkifcfaa
