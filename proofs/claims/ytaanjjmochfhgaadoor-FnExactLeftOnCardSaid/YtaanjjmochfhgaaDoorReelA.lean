/-
  No statement is proved here: dyes that several threads have in common, and what a reel of the program takes; condition: the numbers are within their kinds.
-/
import Derived.Test.YtaanjjmochfhgaaDoorMeets
import Derived.Test.YtaanjjmochfhgaaDoorSnOk
namespace Go.Proofs.YtaanjjmochfhgaaDoor
open Go.ChangeShapes Go.WideShapes Go.ChangeAt Go.RowKit

theorem has_and : ∀ (x y : Fin 64) (d : Fin 6), hasB (bits BinOp.and IntKind.u8 (x.val : Int) (y.val : Int)) d.val = (hasB (x.val : Int) d.val && hasB (y.val : Int) d.val) := by decide +kernel
theorem and_bd : ∀ (x y : Fin 64), 0 ≤ bits BinOp.and IntKind.u8 (x.val : Int) (y.val : Int) ∧ bits BinOp.and IntKind.u8 (x.val : Int) (y.val : Int) ≤ 63 := by decide +kernel
theorem has_and' {x y : Int} {d : Nat} (hx : 0 ≤ x ∧ x ≤ 63) (hy : 0 ≤ y ∧ y ≤ 63) (hd : d < 6) : hasB (bits BinOp.and IntKind.u8 x y) d = (hasB x d && hasB y d) ∧ 0 ≤ bits BinOp.and IntKind.u8 x y ∧ bits BinOp.and IntKind.u8 x y ≤ 63 := by
  have h1 := has_and ⟨x.toNat, by omega⟩ ⟨y.toNat, by omega⟩ ⟨d, hd⟩
  have h2 := and_bd ⟨x.toNat, by omega⟩ ⟨y.toNat, by omega⟩
  simp only [Int.toNat_of_nonneg hx.1, Int.toNat_of_nonneg hy.1] at h1 h2
  exact ⟨h1, h2⟩

theorem bareTakes_any (h : Int) (m : Nat → Int) (d n o : Int) (w : World) :
    Calls Tryd.prog 49 #[.agg #[.int .i64 h, .int .u8 (m 0), .int .u8 (m 1), .int .u8 (m 2), .int .u8 (m 3), .int .u8 (m 4), .int .u8 (m 5)], tv d n o] w fun e w' => e = .returned (.bool (decide (n ≤ h))) ∧ Below w.heap.size w w' := by
  go_enter Tryd.func49, Tryd.ntmps49
  go_wp2
  go_ret
  exact ⟨rfl, by go_grown⟩

set_option maxHeartbeats 1000000 in
theorem loadedTakes_any (l f : Int) (m : Nat → Int) (d : Nat) (n o : Int) (w : World) (hf : 0 ≤ f ∧ f ≤ 63) (hd : d < 6) :
    Calls Tryd.prog 77 #[.agg #[.int .i64 l, .int .u8 f, .int .u8 (m 0), .int .u8 (m 1), .int .u8 (m 2), .int .u8 (m 3), .int .u8 (m 4), .int .u8 (m 5)], .agg #[.int .u8 d, .int .i64 n, .int .i64 o]] w fun e w' => e = .returned (.bool (decide (n ≤ l) && hasB f d)) ∧ Below w.heap.size w w' := by
  have HH := Lib.hid fun wx => has_any f d wx (by omega) (by omega)
  by_cases h1 : n ≤ l
  · rw [show (decide (n ≤ l) && hasB f d) = hasB f d by simp [h1]]
    generalize hasB f d = r at *
    go_enter Tryd.func77, Tryd.ntmps77
    go_wp2_with fail
    refine (HH.out _).mono ?_
    rintro e w' ⟨rfl, rfl⟩
    go_wp2
    go_ret
    exact ⟨rfl, by go_grown⟩
  · rw [show (decide (n ≤ l) && hasB f d) = false by simp [h1]]
    have h2 : l < n := by omega
    go_enter Tryd.func77, Tryd.ntmps77
    go_wp2
    go_ret
    exact ⟨rfl, by go_grown⟩
end Go.Proofs.YtaanjjmochfhgaaDoor
