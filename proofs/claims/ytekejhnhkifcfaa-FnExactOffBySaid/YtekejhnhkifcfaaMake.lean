/-
  No statement is proved here: what the functions that make fractions return; conditions: int64s whose size is at most 9223372036854775807, as stated at each.
-/
import Derived.Test.YtekejhnhkifcfaaGcd
import Derived.Test.YtekejhnhkifcfaaMax
namespace Go.Proofs.Ytekejhnhkifcfaa
open Go.RowKit

theorem tdiv_bd (n g : Int) (h : -9223372036854775807 ≤ n) (h' : n ≤ 9223372036854775807) : -9223372036854775807 ≤ n.tdiv g ∧ n.tdiv g ≤ 9223372036854775807 := by
  have e : (n.tdiv g).natAbs ≤ n.natAbs := by rw [Int.natAbs_tdiv]; exact Nat.div_le_self _ _
  omega

set_option maxHeartbeats 400000 in
theorem make_any (n d : Int) (w : World) (h : -9223372036854775807 ≤ n) (h' : n ≤ 9223372036854775807) (hd : 0 < d) (hd' : d ≤ 9223372036854775807) :
    Calls Try.prog 44 #[.int .i64 n, .int .i64 d] w fun e w' => e = .returned (.agg #[.int .i64 (lowN n d), .int .i64 (lowD n d)]) ∧ Below w.heap.size w w' := by
  have hlow : lowN n d = n.tdiv (Int.gcd n d : Int) ∧ lowD n d = d.tdiv (Int.gcd n d : Int) := by unfold lowN lowD; rw [if_neg (by omega)]; exact ⟨rfl, rfl⟩
  rw [hlow.1, hlow.2]
  clear hlow
  have hg := gcd_pos_right (n := n) (d := d) (by omega)
  have hab : (Int.gcd (n.natAbs : Int) d : Int) = (Int.gcd n d : Int) := by simp [Int.gcd]
  generalize (Int.gcd n d : Int) = g at *
  have b1 := tdiv_bd n g h h'
  have b2 := tdiv_bd d g (by omega) hd'
  have HA := Lib.hid hab
  clear hab
  have HM := Lib.hid (max_neg n)
  have hg0 : ¬ g = 0 := by omega
  go_enter Try.func44, Try.ntmps44
  go_wp2_with fail
  refine (max_any _ _ _).mono ?_
  rintro e w' ⟨rfl, rfl⟩
  rw [HM.out]
  go_wp2_with fail
  refine (common_any _ _ _ (by omega) (by omega) (by omega) (by omega)).mono ?_
  rintro e w' ⟨rfl, rfl⟩
  rw [HA.out]
  clear HA HM
  go_wp2
  go_region
  all_goals
    go_wp2
    go_returns
    exact ⟨rfl, by go_grown⟩

set_option maxHeartbeats 400000 in
theorem reduced_any (n d : Int) (w : World) (h : -9223372036854775807 ≤ n) (h' : n ≤ 9223372036854775807) (hd : -9223372036854775807 ≤ d) (hd' : d ≤ 9223372036854775807) (hd0 : ¬ d = 0) :
    Calls Try.prog 48 #[.agg #[.int .i64 n, .int .i64 d]] w fun e w' => e = .returned (.agg #[.int .i64 (lowN n d), .int .i64 (lowD n d)]) ∧ Below w.heap.size w w' := by
  have hg := gcd_pos_right (n := n) (d := d) (by omega)
  have hab : (Int.gcd (n.natAbs : Int) (d.natAbs : Int) : Int) = (Int.gcd n d : Int) := by simp [Int.gcd]
  have hle : (Int.gcd n d : Int) ≤ 9223372036854775807 := by
    have := Int.gcd_le_natAbs_right n hd0
    omega
  have hgcd := fun wx => gcd_any (n.natAbs : Int) (d.natAbs : Int) wx (by omega) (by omega) (by omega) (by omega)
  rw [hab] at hgcd
  clear hab
  by_cases hneg : d < 0
  · have hlow : lowN n d = n.tdiv (-(Int.gcd n d : Int)) ∧ lowD n d = d.tdiv (-(Int.gcd n d : Int)) := by unfold lowN lowD; rw [if_pos hneg]; exact ⟨rfl, rfl⟩
    rw [Int.tdiv_neg, Int.tdiv_neg] at hlow
    rw [hlow.1, hlow.2]
    clear hlow
    generalize (Int.gcd n d : Int) = g at *
    have b1 := tdiv_bd n g h h'
    have b2 := tdiv_bd d g hd hd'
    have hg0 : ¬ -g = 0 := by omega
    have HG := Lib.hid hgcd
    clear hgcd
    go_enter Try.func48, Try.ntmps48
    go_wp2
    go_quiet ((first | (go_at_call 64; exact Calls.quiet_of_same ((size_any _ _ (by omega) (by omega)).mono fun _ _ ⟨he, hw⟩ => ⟨he, hw.symm⟩)) | (go_at_call 63; exact Calls.quiet_of (HG.out _))))
    go_wp2
    go_region
    all_goals
      go_wp2
      go_returns
      refine ⟨rfl, ?_⟩
      go_grown
      refine below_drewN ?_ _
      go_grown
  · have hlow : lowN n d = n.tdiv (Int.gcd n d : Int) ∧ lowD n d = d.tdiv (Int.gcd n d : Int) := by unfold lowN lowD; rw [if_neg hneg]; exact ⟨rfl, rfl⟩
    rw [hlow.1, hlow.2]
    clear hlow
    generalize (Int.gcd n d : Int) = g at *
    have b1 := tdiv_bd n g h h'
    have b2 := tdiv_bd d g hd hd'
    have hg0 : ¬ g = 0 := by omega
    have HG := Lib.hid hgcd
    clear hgcd
    go_enter Try.func48, Try.ntmps48
    go_wp2
    go_quiet ((first | (go_at_call 64; exact Calls.quiet_of_same ((size_any _ _ (by omega) (by omega)).mono fun _ _ ⟨he, hw⟩ => ⟨he, hw.symm⟩)) | (go_at_call 63; exact Calls.quiet_of (HG.out _))))
    go_wp2
    go_region
    all_goals
      go_wp2
      go_returns
      refine ⟨rfl, ?_⟩
      go_grown
      refine below_drewN ?_ _
      go_grown
end Go.Proofs.Ytekejhnhkifcfaa
