/-
  No statement is proved here: how a law looks for its marks in a slice of moves; condition: at most 2097152 of them.
-/
import Derived.Test.YtphinokacggnfaaMvMark
namespace Go.Proofs.Ytphinokacggnfaa
open Go.ChangeShapes Go.WideShapes Go.ChangeAt Go.RowKit

set_option maxRecDepth 100000 in
set_option maxHeartbeats 2000000 in
theorem heldMv_any (v : Value) (n : Nat) (w : World) (k : Int) (h : Mvs w v (marksMv k n)) (hn : n ≤ 2097152) (hk : 0 ≤ k) (hk' : k ≤ 1000000000) :
    Calls Try.prog 27 #[v, .int .i64 k] w fun e w' => e = .returned (.int .i64 (k + 3 * (n : Int))) ∧ Below w.heap.size w w' := by
  by_cases h0 : n = 0
  · subst h0
    obtain ⟨a, cap, rfl⟩ := Mvs.nil h
    clear h
    go_enter Try.func27, Try.ntmps27
    go_wp2
    go_rounds 1
    go_ret
    exact ⟨by simp, Below.refl _ _⟩
  · obtain ⟨b, off, cap, rfl, hb, hc⟩ := h.pos (by rw [marksMv_length]; omega)
    rw [marksMv_length] at *
    have H1 : Hid (∀ j, j < n → w.cell? ⟨b, off + j * 3, none⟩ = some (.int .i8 (IntKind.i8.wrap (k + 3 * (j : Int)))) ∧ w.cell? ⟨b, off + j * 3 + 1, none⟩ = some (.int .i8 (IntKind.i8.wrap (k + 3 * (j : Int) + 1))) ∧ w.cell? ⟨b, off + j * 3 + 2, none⟩ = some (.int .i16 (IntKind.i16.wrap (k + 3 * (j : Int) + 1 + 1)))) := fun j hj => by
      have := hc j hj
      rw [marksMv_get k n j hj] at this
      exact this
    clear hc h
    go_enter Try.func27, Try.ntmps27
    go_wp2
    go_loop [1, 5] (fun kk i => ∃ j : Nat, j ≤ n ∧ i = .int .i64 j ∧ kk = .int .i64 (k + 3 * (j : Int))) (fun _ i => n - (intOf i).toNat)
    case atStart => exact ⟨0, Nat.zero_le _, rfl, by go_num⟩
    case round =>
      obtain ⟨j, hj, rfl, rfl⟩ := hrel
      by_cases hlt : j < n
      · obtain ⟨c0, c1, c2⟩ := H1.out j hlt
        have hne0 : (IntKind.i8.wrap (k + 3 * (j : Int)) != IntKind.i8.wrap (k + 3 * (j : Int))) = false := by simp
        have hne1 : (IntKind.i8.wrap (k + 3 * (j : Int) + 1) != IntKind.i8.wrap (k + 3 * (j : Int) + 1)) = false := by simp
        have hne2 : (IntKind.i16.wrap (k + 3 * (j : Int) + 1 + 1) != IntKind.i16.wrap (k + 3 * (j : Int) + 1 + 1)) = false := by simp
        go_wp2
        go_round
        case rel => exact ⟨j + 1, by omega, by go_num, by go_num⟩
        case measure => simp [intOf]; omega
      · have hkn : j = n := by omega
        subst hkn
        go_wp2
        go_ret
        exact ⟨rfl, Below.refl _ _⟩
end Go.Proofs.Ytphinokacggnfaa
