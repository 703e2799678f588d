/-
  No statement is proved here: what the document's own text says of bounds; no condition.
-/
import Derived.Test.YtekejhnhkifcfaaBase
import Derived.IntWalk
namespace Go.Proofs.Ytekejhnhkifcfaa
open Go.RowKit

/-- lo ≤ n ≤ hi. -/
def inB (n lo hi : Int) : Bool := decide (lo ≤ n ∧ n ≤ hi)
theorem inB_of {n lo hi : Int} (h : inB n lo hi = true) : lo ≤ n ∧ n ≤ hi := of_decide_eq_true h
theorem inB_no {n lo hi : Int} (h : inB n lo hi = false) : n < lo ∨ hi < n := by
  have := of_decide_eq_false h
  omega
theorem inB_mk {n lo hi : Int} (h : lo ≤ n ∧ n ≤ hi) : inB n lo hi = true := decide_eq_true h
theorem inB_mkno {n lo hi : Int} (h : n < lo ∨ hi < n) : inB n lo hi = false := by unfold inB; simp; omega

theorem in_any (n lo hi : Int) (w : World) :
    Calls Try.prog 37 #[.int .i64 n, .int .i64 lo, .int .i64 hi] w fun e w' => e = .returned (.bool (inB n lo hi)) ∧ w = w' := by
  by_cases h0 : lo ≤ n
  · by_cases h1 : n ≤ hi
    · go_enter Try.func37, Try.ntmps37
      go_wp2
      go_ret
      exact ⟨ret_bool (by first | (rw [inB_mk ⟨h0, h1⟩]) | (rw [inB_mkno (by omega)])), rfl⟩
    · go_enter Try.func37, Try.ntmps37
      go_wp2
      go_ret
      exact ⟨ret_bool (by first | (rw [inB_mk ⟨h0, h1⟩]) | (rw [inB_mkno (by omega)])), rfl⟩
  · go_enter Try.func37, Try.ntmps37
    go_wp2
    go_ret
    exact ⟨ret_bool (by first | (rw [inB_mk ⟨h0, h1⟩]) | (rw [inB_mkno (by omega)])), rfl⟩
end Go.Proofs.Ytekejhnhkifcfaa
