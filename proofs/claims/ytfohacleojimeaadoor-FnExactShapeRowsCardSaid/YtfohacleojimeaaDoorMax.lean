/-
  No statement is proved here: the greater of two numbers in the document's own text; no condition.
-/
import Derived.Test.YtfohacleojimeaaDoorIn
namespace Go.Proofs.YtfohacleojimeaaDoor
open Go.RowKit

theorem max_any (a b : Int) (w : World) :
    Calls Tryd.prog 22 #[.int .i64 a, .int .i64 b] w fun e w' => e = .returned (.int .i64 (max a b)) ∧ w = w' := by
  by_cases h0 : b < a
  · go_enter Tryd.func22, Tryd.ntmps22
    go_wp2
    go_ret
    exact ⟨ret_int (by omega), rfl⟩
  · go_enter Tryd.func22, Tryd.ntmps22
    go_wp2
    go_ret
    exact ⟨ret_int (by omega), rfl⟩

theorem max_neg (n : Int) : max n (-n) = (n.natAbs : Int) := by omega
end Go.Proofs.YtfohacleojimeaaDoor
