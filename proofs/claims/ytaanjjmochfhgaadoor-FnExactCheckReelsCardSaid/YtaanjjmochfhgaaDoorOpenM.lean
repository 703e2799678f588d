/-
  No statement is proved here: meets that come in as an argument; no condition.
-/
import Derived.Test.YtaanjjmochfhgaaDoorMeets
namespace Go.Proofs.YtaanjjmochfhgaaDoor
open Go.ChangeShapes Go.WideShapes Go.ChangeAt Go.RowKit

def sixM (a b c d e f : Int) : Nat → Int
  | 0 => a
  | 1 => b
  | 2 => c
  | 3 => d
  | 4 => e
  | 5 => f
  | _ => 0
set_option maxRecDepth 100000 in
theorem open_meets {w : World} {v : Value} {base : Nat} (o : Value.okWide Tryd.prog w .any base 22 v) : ∃ m, v = mv m ∧ Bytes6 m := by
  obtain ⟨vs, rfl, n0, r0, rfl, h0, n1, r1, rfl, h1, n2, r2, rfl, h2, n3, r3, rfl, h3, n4, r4, rfl, h4, n5, r5, rfl, h5, rfl⟩ := open_cells (ts := [5, 5, 5, 5, 5, 5]) (ks := [.u8, .u8, .u8, .u8, .u8, .u8]) o (by kernel_rfl) (by kernel_rfl) (by kernel_rfl) (by kernel_rfl)
  refine ⟨sixM n0 n1 n2 n3 n4 n5, rfl, fun k => ?_⟩
  have u : ∀ {n : Int}, IntKind.u8.has n → 0 ≤ n ∧ n ≤ 255 := fun h => h
  match k with
  | 0 => exact u h0
  | 1 => exact u h1
  | 2 => exact u h2
  | 3 => exact u h3
  | 4 => exact u h4
  | 5 => exact u h5
  | n + 6 => simp [sixM]
end Go.Proofs.YtaanjjmochfhgaaDoor
