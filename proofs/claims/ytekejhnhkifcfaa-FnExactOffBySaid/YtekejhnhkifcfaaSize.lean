/-
  No statement is proved here: the size of a number in the document's own text; condition: an int64 but the least one.
-/
import Derived.Test.YtekejhnhkifcfaaMax
namespace Go.Proofs.Ytekejhnhkifcfaa
open Go.RowKit

theorem l01Size_any (n : Int) (w : World) (h : -9223372036854775807 ≤ n) (h' : n ≤ 9223372036854775807) :
    Calls Try.prog 55 #[.int .i64 n] w fun e w' => e = .returned (.int .i64 (n.natAbs : Int)) ∧ w = w' := by
  have e := max_neg n
  have HM := Lib.hid (max_any n (-n) w)
  go_enter Try.func55, Try.ntmps55
  go_wp2_with fail
  refine HM.out.mono ?_
  rintro e' w' ⟨rfl, rfl⟩
  go_wp2
  go_ret
  first | exact ⟨rfl, rfl⟩ | exact ⟨ret_int e, rfl⟩

end Go.Proofs.Ytekejhnhkifcfaa
