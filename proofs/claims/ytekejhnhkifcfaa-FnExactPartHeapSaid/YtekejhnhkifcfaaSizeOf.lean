/-
  No statement is proved here: the size of a number, as the program takes it; condition: it is no least int64.
-/
import Derived.Test.YtekejhnhkifcfaaBase
import Derived.Test.YtekejhnhkifcfaaIn
namespace Go.Proofs.Ytekejhnhkifcfaa
open Go.RowKit

theorem size_any (n : Int) (w : World) (h : -9223372036854775807 ≤ n) (h' : n ≤ 9223372036854775807) :
    Calls Try.prog 64 #[.int .i64 n] w fun e w' => e = .returned (.int .i64 (n.natAbs : Int)) ∧ w = w' := by
  by_cases h0 : n < 0
  · go_enter Try.func64, Try.ntmps64
    go_wp2
    go_ret
    exact ⟨ret_int (by omega), rfl⟩
  · go_enter Try.func64, Try.ntmps64
    go_wp2
    go_ret
    exact ⟨ret_int (by omega), rfl⟩
end Go.Proofs.Ytekejhnhkifcfaa
