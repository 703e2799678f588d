/-
  No statement is proved here: how a heap comes in as an argument, and what the functions that add up a heap return; no condition but that the numbers are int32s.
-/
import Derived.Test.YtekejhnhkifcfaaHeap0
namespace Go.Proofs.Ytekejhnhkifcfaa
open Go.RowKit

set_option maxRecDepth 100000 in
theorem open8 {w : World} {r : Reach} {base : Nat} {v : Value} (h : Value.okWide Try.prog w r base 22 v) : ∃ x0 x1 x2 x3 x4 x5 x6 x7 : Int, v = .agg #[.int .i32 x0, .int .i32 x1, .int .i32 x2, .int .i32 x3, .int .i32 x4, .int .i32 x5, .int .i32 x6, .int .i32 x7] ∧ in32 x0 ∧ in32 x1 ∧ in32 x2 ∧ in32 x3 ∧ in32 x4 ∧ in32 x5 ∧ in32 x6 ∧ in32 x7 := by
  obtain ⟨vs, rfl, hc⟩ := open_cells h (by kernel_rfl) (ts := [21, 21, 21, 21, 21, 21, 21, 21]) (ks := [.i32, .i32, .i32, .i32, .i32, .i32, .i32, .i32]) (by kernel_rfl) (by kernel_rfl) (by kernel_rfl)
  obtain ⟨x0, _, rfl, h0, x1, _, rfl, h1, x2, _, rfl, h2, x3, _, rfl, h3, x4, _, rfl, h4, x5, _, rfl, h5, x6, _, rfl, h6, x7, _, rfl, h7, rfl⟩ := hc
  exact ⟨x0, x1, x2, x3, x4, x5, x6, x7, rfl, h0, h1, h2, h3, h4, h5, h6, h7⟩

/-- The sum of the first k numbers. -/
def sumTo (z : Nat → Int) : Nat → Int
  | 0 => 0
  | k + 1 => sumTo z k + z k
theorem sumTo_bd {z : Nat → Int} (hz : bd32 z) (k : Nat) : -(2147483648 * (k : Int)) ≤ sumTo z k ∧ sumTo z k ≤ 2147483647 * (k : Int) := by
  induction k with
  | zero => simp [sumTo]
  | succ k ih =>
    have := hz k
    simp only [sumTo]
    omega

set_option maxHeartbeats 400000 in
theorem l01Grams_any (z : Nat → Int) (b off : Nat) (w : World) (hH : HeapAt w b off z) (hz : bd32 z) :
    Calls Try.prog 39 #[.pointer (some ⟨b, off, none⟩)] w fun e w' => e = .returned (.int .i64 (sumTo z 8)) ∧ w = w' := by
  have HH := Lib.hid hH
  have HZ := Lib.hid hz
  clear hH hz
  go_enter Try.func39, Try.ntmps39
  go_wp2
  go_loop [3, 4] (fun s i => ∃ k : Nat, k ≤ 8 ∧ i = .int .i64 k ∧ s = .int .i64 (sumTo z k)) (fun _ i => 8 - (intOf i).toNat)
  case atStart => exact ⟨0, by omega, rfl, rfl⟩
  case round =>
    obtain ⟨k, hk, rfl, rfl⟩ := hrel
    by_cases hlt : k < 8
    · have hc := HH.out k hlt
      have hb := HZ.out k
      have hs := sumTo_bd HZ.out k
      go_wp2
      go_round
      case rel => exact ⟨k + 1, by omega, by go_num, rfl⟩
      case measure => simp [intOf]; omega
    · have he : k = 8 := by omega
      subst he
      go_wp2
      go_ret
      exact ⟨rfl, rfl⟩

set_option maxHeartbeats 400000 in
theorem sumOf32_any (z : Nat → Int) (b off : Nat) (w : World) (hH : HeapAt w b off z) (hz : bd32 z) :
    Calls Try.prog 41 #[.slice (some ⟨b, off, none⟩) 8 8] w fun e w' => e = .returned (.int .i64 (sumTo z 8)) ∧ w = w' := by
  have HH := Lib.hid hH
  have HZ := Lib.hid hz
  clear hH hz
  go_enter Try.func41, Try.ntmps41
  go_wp2
  go_loop [3, 8] (fun s i => ∃ k : Nat, k ≤ 8 ∧ i = .int .i64 k ∧ s = .int .i64 (sumTo z k)) (fun _ i => 8 - (intOf i).toNat)
  case atStart => exact ⟨0, by omega, rfl, rfl⟩
  case round =>
    obtain ⟨k, hk, rfl, rfl⟩ := hrel
    by_cases hlt : k < 8
    · have hc := HH.out k hlt
      have hb := HZ.out k
      have hs := sumTo_bd HZ.out k
      go_wp2
      go_round
      case rel => exact ⟨k + 1, by omega, by go_num, rfl⟩
      case measure => simp [intOf]; omega
    · have he : k = 8 := by omega
      subst he
      go_wp2
      go_ret
      exact ⟨rfl, rfl⟩
end Go.Proofs.Ytekejhnhkifcfaa
