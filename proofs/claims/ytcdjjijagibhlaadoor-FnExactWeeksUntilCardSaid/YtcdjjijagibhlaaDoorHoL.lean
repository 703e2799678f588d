/-
  No statement is proved here: how holes come into a law, how it copies and compares them; no condition.
-/
import Derived.Test.YtcdjjijagibhlaaDoorHoI
namespace Go.Proofs.YtcdjjijagibhlaaDoor
open Go.ChangeShapes Go.WideShapes Go.ChangeAt Go.RowKit

def eightA (a b c d e f g h : Int) : Nat → Int
  | 0 => a
  | 1 => b
  | 2 => c
  | 3 => d
  | 4 => e
  | 5 => f
  | 6 => g
  | _ => h
set_option maxRecDepth 100000 in
theorem open_holes {w : World} {base : Nat} {v : Value} (o : Value.okWide Tryd.prog w .any base 22 v) : ∃ h : Nat → Int, v = hv h ∧ Bytes8 h := by
  obtain ⟨vs, rfl, hc⟩ := open_cells o (by kernel_rfl) (ts := [5, 5, 5, 5, 5, 5, 5, 5]) (ks := [.u8, .u8, .u8, .u8, .u8, .u8, .u8, .u8]) (by kernel_rfl) (by kernel_rfl) (by kernel_rfl)
  obtain ⟨n0, _, rfl, h0, n1, _, rfl, h1, n2, _, rfl, h2, n3, _, rfl, h3, n4, _, rfl, h4, n5, _, rfl, h5, n6, _, rfl, h6, n7, _, rfl, h7, rfl⟩ := hc
  refine ⟨eightA n0 n1 n2 n3 n4 n5 n6 n7, rfl, fun j hj => ?_⟩
  have : j = 0 ∨ j = 1 ∨ j = 2 ∨ j = 3 ∨ j = 4 ∨ j = 5 ∨ j = 6 ∨ j = 7 := by omega
  rcases this with rfl | rfl | rfl | rfl | rfl | rfl | rfl | rfl
  · exact h0
  · exact h1
  · exact h2
  · exact h3
  · exact h4
  · exact h5
  · exact h6
  · exact h7
set_option maxRecDepth 100000 in
set_option maxHeartbeats 4000000 in
theorem toHoles_any (h : Nat → Int) (w : World) :
    Calls Tryd.prog 10 #[hv h] w fun e w' => e = .returned (hv h) ∧ Below w.heap.size w w' := by
  unfold hv
  go_enter Tryd.func10, Tryd.ntmps10
  go_wp2
  go_rounds 9
  refine bodyPost_ret (v := .agg #[.int .u8 (h 0), .int .u8 (h 1), .int .u8 (h 2), .int .u8 (h 3), .int .u8 (h 4), .int .u8 (h 5), .int .u8 (h 6), .int .u8 (h 7)]) (by simp [results, go_sem, Tryd.f10]) rfl ?_
  exact ⟨rfl, by go_grown⟩
set_option maxRecDepth 100000 in
set_option maxHeartbeats 4000000 in
theorem eqHoles_same (h : Nat → Int) (w : World) :
    Calls Tryd.prog 12 #[hv h, hv h] w fun e w' => e = .returned (.bool true) ∧ Below w.heap.size w w' := by
  obtain ⟨W0, hW0⟩ : ∃ W0, W0 = (w.alloc (.cells #[.int .u8 (h 0), .int .u8 (h 1), .int .u8 (h 2), .int .u8 (h 3), .int .u8 (h 4), .int .u8 (h 5), .int .u8 (h 6), .int .u8 (h 7)] 23)).alloc (.cells #[.int .u8 (h 0), .int .u8 (h 1), .int .u8 (h 2), .int .u8 (h 3), .int .u8 (h 4), .int .u8 (h 5), .int .u8 (h 6), .int .u8 (h 7)] 23) := ⟨_, rfl⟩
  have A0 : Hid (HAt W0 w.heap.size h) := Lib.hid (by
    rw [hW0]
    exact (hat_made w 23 h).below ((Below.refl _ _).alloc (Nat.le_refl _) _))
  have A1 : Hid (HAt W0 (w.heap.size + 1) h) := Lib.hid (by
    rw [hW0]
    have := hat_made (w.alloc (.cells #[.int .u8 (h 0), .int .u8 (h 1), .int .u8 (h 2), .int .u8 (h 3), .int .u8 (h 4), .int .u8 (h 5), .int .u8 (h 6), .int .u8 (h 7)] 23)) 23 h
    simpa only [World.size_alloc] using this)
  have B0 : Hid (Below w.heap.size w W0) := Lib.hid (by rw [hW0]; go_grown)
  have HW0 := Lib.hid hW0
  clear hW0
  go_enter Tryd.func12, Tryd.ntmps12
  go_wp2_with fail
  rw [← HW0.out]
  go_loopw [5] (fun i wr => ∃ k : Nat, k ≤ 8 ∧ i = .int .i64 k ∧ Hid (HAt wr w.heap.size h) ∧ Hid (HAt wr (w.heap.size + 1) h) ∧ Hid (Below w.heap.size w wr)) (fun i _ => 8 - (intOf i).toNat)
  case atStart => exact ⟨0, by omega, rfl, A0, A1, B0⟩
  case round =>
    obtain ⟨k, hk, rfl, h0, h1, hB⟩ := hrel
    by_cases hlt : k < 8
    · have c0 := h0.out k hlt
      have c1 := h1.out k hlt
      have i0 : (0 : Int) ≤ (k : Int) := by omega
      have i1 : (k : Int) < 8 := by omega
      have hne : (h k != h k) = false := by simp
      go_wp2_with fail
      go_quiet (fail)
      go_wp2_with fail
      go_roundw
      case rel => exact ⟨k + 1, by omega, by go_num, h0, h1, Lib.hid (below_drewN hB.out _)⟩
      case measure => simp [intOf]; omega
    · have hk8 : k = 8 := by omega
      subst hk8
      go_wp2_with fail
      go_ret
      exact ⟨rfl, hB.out⟩
end Go.Proofs.YtcdjjijagibhlaaDoor
