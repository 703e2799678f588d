/-
  No statement is proved here: a hole in the document's own text; conditions as stated.
-/
import Derived.Test.YtondogfmkicemaaHoA
namespace Go.Proofs.Ytondogfmkicemaa
open Go.ChangeShapes Go.WideShapes Go.ChangeAt Go.RowKit

theorem rem_all : ∀ (x : Fin 8) (a : Fin 256), ((a.val : Int) / 2 ^ x.val % 2 == 1) = a.val.testBit x.val := by decide +kernel
theorem rem_bit {n : Int} (hn : 0 ≤ n ∧ n ≤ 255) {x : Nat} (hx : x < 8) : (n / 2 ^ x % 2 == 1) = bitH n x := by
  have h := rem_all ⟨x, hx⟩ ⟨n.toNat, by omega⟩
  have e : ((n.toNat : Nat) : Int) = n := by omega
  simp only [e] at h
  exact h
set_option maxHeartbeats 2000000 in
theorem l06Hole_any (A : Nat) (h : Nat → Int) (x y : Int) (w : World) (h8 : Bytes8 h) (hx : -9223372036854775808 ≤ x ∧ x ≤ 9223372036854775807) (hy : -9223372036854775808 ≤ y ∧ y ≤ 9223372036854775807) (H : HAt w A h) :
    Calls Try.prog 7 #[.pointer (some ⟨A, 0, none⟩), .int .i64 x, .int .i64 y] w fun e w' => e = .returned (.bool (hasH h x y)) ∧ w = w' := by
  by_cases h1 : 0 ≤ x
  · by_cases h2 : 0 ≤ y
    · by_cases h3 : x < 8
      · by_cases h4 : y < 8
        · obtain ⟨m, rfl⟩ : ∃ m : Nat, x = (m : Int) := ⟨x.toNat, by omega⟩
          obtain ⟨k, rfl⟩ : ∃ k : Nat, y = (k : Int) := ⟨y.toNat, by omega⟩
          rw [hasH_in (by omega) (by omega)]
          have c0 := H k (by omega)
          have hb := h8 k (by omega)
          have hd1 : 0 ≤ h k / 2 ^ m := Int.ediv_nonneg hb.1 (Int.le_of_lt (Int.pow_pos (by omega)))
          have HR := Lib.hid (rem_bit hb (x := m) (by omega))
          have hbb := Lib.hid hb
          clear hb
          go_enter Try.func7, Try.ntmps7
          go_wp2
          go_ret
          exact ⟨ret_bool HR.out, rfl⟩
        · rw [hasH_out (by omega)]
          go_enter Try.func7, Try.ntmps7
          go_wp2
          go_ret
          exact ⟨rfl, rfl⟩
      · rw [hasH_out (by omega)]
        go_enter Try.func7, Try.ntmps7
        go_wp2
        go_ret
        exact ⟨rfl, rfl⟩
    · rw [hasH_out (by omega)]
      go_enter Try.func7, Try.ntmps7
      go_wp2
      go_ret
      exact ⟨rfl, rfl⟩
  · rw [hasH_out (by omega)]
    go_enter Try.func7, Try.ntmps7
    go_wp2
    go_ret
    exact ⟨rfl, rfl⟩
end Go.Proofs.Ytondogfmkicemaa
