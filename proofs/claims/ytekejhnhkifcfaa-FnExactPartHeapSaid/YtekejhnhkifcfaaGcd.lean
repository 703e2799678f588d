/-
  No statement is proved here: what the two functions for the greatest common divisor return, and the sizes of numbers; conditions: int64s, at least 0 where the text needs it.
-/
import Derived.Test.YtekejhnhkifcfaaFrac
import Derived.Test.YtekejhnhkifcfaaIn
import Derived.Test.YtekejhnhkifcfaaSizeOf
namespace Go.Proofs.Ytekejhnhkifcfaa
open Go.RowKit

set_option maxHeartbeats 400000 in
theorem common_any (a b : Int) (w : World) (ha : 0 ≤ a) (ha' : a ≤ 9223372036854775807) (hb : 0 ≤ b) (hb' : b ≤ 9223372036854775807) :
    Calls Try.prog 60 #[.int .i64 a, .int .i64 b] w fun e w' => e = .returned (.int .i64 (Int.gcd a b : Int)) ∧ w = w' := by
  obtain ⟨g, hg⟩ : ∃ g, g = Int.gcd a b := ⟨_, rfl⟩
  rw [← hg]
  have HG := Lib.hid hg
  clear hg
  go_enter Try.func60, Try.ntmps60
  go_wp2
  go_loop [0, 1] (fun u v => ∃ x y : Int, 0 ≤ x ∧ x ≤ 9223372036854775807 ∧ 0 ≤ y ∧ y ≤ 9223372036854775807 ∧ Hid (g = Int.gcd x y) ∧ u = .int .i64 x ∧ v = .int .i64 y) (fun _ v => (intOf v).toNat)
  case atStart => exact ⟨a, b, ha, ha', hb, hb', HG, rfl, rfl⟩
  case round =>
    obtain ⟨x, y, hx, hx', hy, hy', H, rfl, rfl⟩ := hrel
    by_cases h0 : 0 < y
    · have hm := Int.emod_lt_of_pos x h0
      have hm0 := Int.emod_nonneg x (show y ≠ 0 by omega)
      go_wp2
      go_round
      case rel => exact ⟨y, x % y, by omega, by omega, by omega, by omega, H.out.trans (gcd_step x y hx h0).symm, rfl, rfl⟩
      case measure => simp [intOf]; omega
    · have hz : y = 0 := by omega
      subst hz
      go_wp2
      go_ret
      exact ⟨ret_int (by rw [H.out, Int.gcd_zero_right, Int.natAbs_of_nonneg hx]), rfl⟩

set_option maxHeartbeats 400000 in
theorem gcd_any (a b : Int) (w : World) (ha : 0 ≤ a) (ha' : a ≤ 9223372036854775807) (hb : 0 ≤ b) (hb' : b ≤ 9223372036854775807) :
    Calls Try.prog 63 #[.int .i64 a, .int .i64 b] w fun e w' => e = .returned (.int .i64 (Int.gcd a b : Int)) ∧ ∃ n, w' = w.drewN n := by
  obtain ⟨g, hg⟩ : ∃ g, g = Int.gcd a b := ⟨_, rfl⟩
  rw [← hg]
  have HG := Lib.hid hg
  clear hg
  go_enter Try.func63, Try.ntmps63
  go_wp2
  go_loopw [0, 1] (fun u v wr => ∃ x y : Int, 0 ≤ x ∧ x ≤ 9223372036854775807 ∧ 0 ≤ y ∧ y ≤ 9223372036854775807 ∧ Hid (g = Int.gcd x y) ∧ u = .int .i64 x ∧ v = .int .i64 y ∧ ∃ n, wr = w.drewN n) (fun _ v _ => (intOf v).toNat)
  case atStart => exact ⟨a, b, ha, ha', hb, hb', HG, rfl, rfl, 0, rfl⟩
  case round =>
    obtain ⟨x, y, hx, hx', hy, hy', H, rfl, rfl, nd, rfl⟩ := hrel
    by_cases h0 : 0 < y
    · have hm := Int.emod_lt_of_pos x h0
      have hm0 := Int.emod_nonneg x (show y ≠ 0 by omega)
      have hne : (y != 0) = true := by rw [bne_iff_ne]; omega
      have hny : ¬ y = 0 := by omega
      go_wp2
      go_region
      all_goals
        go_wp2
        go_roundw
        case rel => exact ⟨y, x % y, by omega, by omega, by omega, by omega, H.out.trans (gcd_step x y hx h0).symm, rfl, rfl, nd + 1, rfl⟩
        case measure => simp [intOf]; omega
    · have hz : y = 0 := by omega
      subst hz
      go_wp2
      go_ret
      exact ⟨ret_int (by rw [H.out, Int.gcd_zero_right, Int.natAbs_of_nonneg hx]), nd, rfl⟩

end Go.Proofs.Ytekejhnhkifcfaa
