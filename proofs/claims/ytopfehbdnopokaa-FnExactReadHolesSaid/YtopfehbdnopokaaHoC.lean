/-
  No statement is proved here: how holes come into a law, and how it copies them; no condition.
-/
import Derived.Test.YtopfehbdnopokaaHoA
namespace Go.Proofs.Ytopfehbdnopokaa
open Go.ChangeShapes Go.WideShapes Go.ChangeAt Go.RowKit

def eightA (a b c d e f g h : Int) : Nat → Int
  | 0 => a
  | 1 => b
  | 2 => c
  | 3 => d
  | 4 => e
  | 5 => f
  | 6 => g
  | _ => h
set_option maxRecDepth 100000 in
theorem open_holes {w : World} {base : Nat} {v : Value} (o : Value.okWide Try.prog w .any base 22 v) : ∃ h : Nat → Int, v = hv h ∧ Bytes8 h := by
  obtain ⟨vs, rfl, hc⟩ := open_cells o (by kernel_rfl) (ts := [5, 5, 5, 5, 5, 5, 5, 5]) (ks := [.u8, .u8, .u8, .u8, .u8, .u8, .u8, .u8]) (by kernel_rfl) (by kernel_rfl) (by kernel_rfl)
  obtain ⟨n0, _, rfl, h0, n1, _, rfl, h1, n2, _, rfl, h2, n3, _, rfl, h3, n4, _, rfl, h4, n5, _, rfl, h5, n6, _, rfl, h6, n7, _, rfl, h7, rfl⟩ := hc
  refine ⟨eightA n0 n1 n2 n3 n4 n5 n6 n7, rfl, fun j hj => ?_⟩
  have : j = 0 ∨ j = 1 ∨ j = 2 ∨ j = 3 ∨ j = 4 ∨ j = 5 ∨ j = 6 ∨ j = 7 := by omega
  rcases this with rfl | rfl | rfl | rfl | rfl | rfl | rfl | rfl
  · exact h0
  · exact h1
  · exact h2
  · exact h3
  · exact h4
  · exact h5
  · exact h6
  · exact h7
set_option maxRecDepth 100000 in
set_option maxHeartbeats 4000000 in
theorem toHoles_any (h : Nat → Int) (w : World) :
    Calls Try.prog 9 #[hv h] w fun e w' => e = .returned (hv h) ∧ Below w.heap.size w w' := by
  unfold hv
  go_enter Try.func9, Try.ntmps9
  go_wp2
  go_rounds 9
  refine bodyPost_ret (v := .agg #[.int .u8 (h 0), .int .u8 (h 1), .int .u8 (h 2), .int .u8 (h 3), .int .u8 (h 4), .int .u8 (h 5), .int .u8 (h 6), .int .u8 (h 7)]) (by simp [results, go_sem, Try.f9]) rfl ?_
  exact ⟨rfl, by go_grown⟩
end Go.Proofs.Ytopfehbdnopokaa
