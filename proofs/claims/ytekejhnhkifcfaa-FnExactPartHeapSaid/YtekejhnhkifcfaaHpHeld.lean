/-
  No statement is proved here: how the law looks for its marks in a list of arrays; condition: at most 2097152 arrays.
-/
import Derived.Test.YtekejhnhkifcfaaHpMark
namespace Go.Proofs.Ytekejhnhkifcfaa
open Go.ChangeShapes Go.WideShapes Go.ChangeAt Go.RowKit

set_option maxRecDepth 100000 in
set_option maxHeartbeats 4000000 in
theorem heldHp_any (v : Value) (n : Nat) (w : World) (k : Int) (h : Hps w v (marksHp k n)) (hn : n ≤ 2097152) (hk : 0 ≤ k) (hk' : k ≤ 1000000000) :
    Calls Try.prog 18 #[v, .int .i64 k] w fun e w' => e = .returned (.int .i64 (k + 8 * (n : Int))) ∧ Below w.heap.size w w' := by
  by_cases h0 : n = 0
  · subst h0
    obtain ⟨a, cap, rfl⟩ := Hps.nil h
    clear h
    go_enter Try.func18, Try.ntmps18
    go_wp2
    go_rounds 1
    go_ret
    exact ⟨by simp, Below.refl _ _⟩
  · obtain ⟨b, off, cap, rfl, hb, hc⟩ := h.pos (by rw [marksHp_length]; omega)
    rw [marksHp_length] at *
    have H1 : Hid (∀ j, j < n → w.cell? ⟨b, off + j * 8, none⟩ = some (.int .i32 (k + 8 * (j : Int))) ∧ w.cell? ⟨b, off + j * 8 + 1, none⟩ = some (.int .i32 (k + 8 * (j : Int) + 1)) ∧ w.cell? ⟨b, off + j * 8 + 2, none⟩ = some (.int .i32 (k + 8 * (j : Int) + 1 + 1)) ∧ w.cell? ⟨b, off + j * 8 + 3, none⟩ = some (.int .i32 (k + 8 * (j : Int) + 1 + 1 + 1)) ∧ w.cell? ⟨b, off + j * 8 + 4, none⟩ = some (.int .i32 (k + 8 * (j : Int) + 1 + 1 + 1 + 1)) ∧ w.cell? ⟨b, off + j * 8 + 5, none⟩ = some (.int .i32 (k + 8 * (j : Int) + 1 + 1 + 1 + 1 + 1)) ∧ w.cell? ⟨b, off + j * 8 + 6, none⟩ = some (.int .i32 (k + 8 * (j : Int) + 1 + 1 + 1 + 1 + 1 + 1)) ∧ w.cell? ⟨b, off + j * 8 + 7, none⟩ = some (.int .i32 (k + 8 * (j : Int) + 1 + 1 + 1 + 1 + 1 + 1 + 1))) := fun j hj => by
      have := hc j hj
      rw [marksHp_get k n j hj] at this
      unfold markHp at this
      simpa only [Int.add_assoc, Int.reduceAdd, Int.add_zero, Int.natCast_zero, Int.natCast_one, Int.cast_ofNat_Int] using this
    clear hc h
    go_enter Try.func18, Try.ntmps18
    go_wp2
    go_loop [1, 5] (fun kk i => ∃ j : Nat, j ≤ n ∧ i = .int .i64 j ∧ kk = .int .i64 (k + 8 * (j : Int))) (fun _ i => n - (intOf i).toNat)
    case atStart => exact ⟨0, Nat.zero_le _, rfl, by go_num⟩
    case round =>
      obtain ⟨j, hj, rfl, rfl⟩ := hrel
      by_cases hlt : j < n
      · obtain ⟨c0, c1, c2, c3, c4, c5, c6, c7⟩ := H1.out j hlt
        have hjb : k + 8 * (j : Int) ≤ 1100000000 := by omega
        have hjn : (j : Int) < (n : Int) := by omega
        have hne0 : (k + 8 * (j : Int) != k + 8 * (j : Int)) = false := by simp
        have hne1 : (k + 8 * (j : Int) + 1 != k + 8 * (j : Int) + 1) = false := by simp
        have hne2 : (k + 8 * (j : Int) + 1 + 1 != k + 8 * (j : Int) + 1 + 1) = false := by simp
        have hne3 : (k + 8 * (j : Int) + 1 + 1 + 1 != k + 8 * (j : Int) + 1 + 1 + 1) = false := by simp
        have hne4 : (k + 8 * (j : Int) + 1 + 1 + 1 + 1 != k + 8 * (j : Int) + 1 + 1 + 1 + 1) = false := by simp
        have hne5 : (k + 8 * (j : Int) + 1 + 1 + 1 + 1 + 1 != k + 8 * (j : Int) + 1 + 1 + 1 + 1 + 1) = false := by simp
        have hne6 : (k + 8 * (j : Int) + 1 + 1 + 1 + 1 + 1 + 1 != k + 8 * (j : Int) + 1 + 1 + 1 + 1 + 1 + 1) = false := by simp
        have hne7 : (k + 8 * (j : Int) + 1 + 1 + 1 + 1 + 1 + 1 + 1 != k + 8 * (j : Int) + 1 + 1 + 1 + 1 + 1 + 1 + 1) = false := by simp
        go_wp2
        refine wp_loop_rounds 9 ?_
        iterate 9 (rw [rounds_succ]; go_wp2)
        go_round
        case rel => exact ⟨j + 1, by omega, by go_num, by go_num⟩
        case measure => simp [intOf]; omega
      · have hkn : j = n := by omega
        subst hkn
        go_wp2
        go_ret
        exact ⟨rfl, Below.refl _ _⟩
end Go.Proofs.Ytekejhnhkifcfaa
