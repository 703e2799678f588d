/-
  No statement is proved here: sums of int64s, as the program takes them; condition: numbers from 0 to 1000000, at most 1048576 of them.
-/
import Derived.Test.YtklgklkfolbjcaaUpToF
namespace Go.Proofs.Ytklgklkfolbjcaa
open Go.ChangeShapes Go.WideShapes Go.ChangeAt Go.RowKit

theorem sum_step (zs : List Int) (k : Nat) (hk : k < zs.length) : (zs.take (k + 1)).sum = (zs.take k).sum + zs.getD k 0 := by
  rw [take_step hk, List.sum_append]
  simp
theorem sum_all (zs : List Int) : (zs.take zs.length).sum = zs.sum := by rw [List.take_length]
theorem sum_bd {zs : List Int} (h : upTo zs 1000000 = true) : ∀ k, k ≤ zs.length → 0 ≤ (zs.take k).sum ∧ (zs.take k).sum ≤ 1000000 * (k : Int)
  | 0, _ => by simp
  | k + 1, hk => by
    have ih := sum_bd h k (by omega)
    have hz := upTo_get h k (by omega)
    rw [sum_step zs k (by omega)]
    omega
theorem sum_bd_all {zs : List Int} (h : upTo zs 1000000 = true) : 0 ≤ zs.sum ∧ zs.sum ≤ 1000000 * (zs.length : Int) := by
  have := sum_bd h zs.length (Nat.le_refl _)
  rwa [sum_all] at this

set_option maxRecDepth 100000 in
set_option maxHeartbeats 1000000 in
theorem sumOf_any (v : Value) (zs : List Int) (w : World) (h : Ints w v zs) (hn : zs.length ≤ 1048576) (hu : upTo zs 1000000 = true) :
    Calls Try.prog 54 #[v] w fun e w' => e = .returned (.int .i64 zs.sum) ∧ w = w' := by
  by_cases h0 : zs.length = 0
  · have hx : zs = [] := List.length_eq_zero_iff.1 h0
    subst hx
    obtain ⟨a1, c1, rfl⟩ := h.nil
    go_enter Try.func54, Try.ntmps54
    go_wp2
    go_rounds 1
    go_ret
    exact ⟨rfl, rfl⟩
  · obtain ⟨b1, o1, c1, rfl, hc1⟩ := h.pos (by omega)
    have U1 := Lib.hid (sum_step zs)
    have U2 := Lib.hid (sum_bd hu)
    have U3 := Lib.hid (sum_all zs)
    have U4 := Lib.hid (fun k hk => upTo_get hu k hk)
    obtain ⟨n, hln⟩ : ∃ n, n = zs.length := ⟨_, rfl⟩
    rw [← hln] at U1 U2 U3 U4 hc1 hn h0 ⊢
    have HC := Lib.hid hc1
    clear hc1 hln h hu
    obtain ⟨S, hS⟩ : ∃ S, S = zs.sum := ⟨_, rfl⟩
    rw [← hS] at U3 ⊢
    clear hS
    go_enter Try.func54, Try.ntmps54
    go_wp2
    go_loop [3, 8] (fun s i => ∃ (k : Nat) (q : Int), k ≤ n ∧ i = .int .i64 k ∧ s = .int .i64 q ∧ Hid (q = (zs.take k).sum)) (fun _ i => n - (intOf i).toNat)
    case atStart => exact ⟨0, 0, Nat.zero_le _, rfl, rfl, by rfl⟩
    case round =>
      obtain ⟨k, q, hk, rfl, rfl, hq⟩ := hrel
      by_cases hlt : k < n
      · have c1 : w.cell? ⟨b1, o1 + k, none⟩ = some (.int .i64 (zs.getD k 0)) := HC.out k hlt
        have u2 := U2.out k hk
        have u4 := U4.out k hlt
        have HS := Lib.hid (U1.out k hlt)
        rw [← hq.out] at HS u2
        obtain ⟨z, hz⟩ : ∃ z, z = zs.getD k 0 := ⟨_, rfl⟩
        rw [← hz] at c1 u4 HS
        clear hz hq
        go_wp2
        go_round
        case rel => exact ⟨k + 1, q + z, by omega, by go_num, by go_num, HS.out.symm⟩
        case measure => simp [intOf]; omega
      · have hkn : k = n := by omega
        subst hkn
        have HE := Lib.hid (hq.out.trans U3.out)
        go_wp2
        go_ret
        exact ⟨ret_int HE.out, rfl⟩
end Go.Proofs.Ytklgklkfolbjcaa
