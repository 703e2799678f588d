/-
  No statement is proved here: the size of a number, as the program takes it; condition: it is no least int64.
-/
import Derived.Test.YtljnhggblmdlnaaDoorBase
import Derived.Test.YtljnhggblmdlnaaDoorIn
namespace Go.Proofs.YtljnhggblmdlnaaDoor
open Go.RowKit

theorem size_any (n : Int) (w : World) (h : -9223372036854775807 ≤ n) (h' : n ≤ 9223372036854775807) :
    Calls Tryd.prog 105 #[.int .i64 n] w fun e w' => e = .returned (.int .i64 (n.natAbs : Int)) ∧ w = w' := by
  by_cases h0 : n < 0
  · go_enter Tryd.func105, Tryd.ntmps105
    go_wp2
    go_ret
    exact ⟨ret_int (by omega), rfl⟩
  · go_enter Tryd.func105, Tryd.ntmps105
    go_wp2
    go_ret
    exact ⟨ret_int (by omega), rfl⟩
end Go.Proofs.YtljnhggblmdlnaaDoor
