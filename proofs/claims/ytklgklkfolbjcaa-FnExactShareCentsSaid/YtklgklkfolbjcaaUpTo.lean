/-
  No statement is proved here: numbers that are from 0 to a most, as the program tells them; condition: at most 1048576 numbers.
-/
import Derived.Test.YtklgklkfolbjcaaUpToF
namespace Go.Proofs.Ytklgklkfolbjcaa
open Go.ChangeShapes Go.WideShapes Go.ChangeAt Go.RowKit

set_option maxRecDepth 100000 in
set_option maxHeartbeats 1000000 in
theorem areUp_any (v : Value) (zs : List Int) (m : Int) (w : World) (h : Ints w v zs) (hn : zs.length ≤ 1048576) :
    Calls Try.prog 53 #[v, .int .i64 m] w fun e w' => e = .returned (.bool (upTo zs m)) ∧ w = w' := by
  by_cases h0 : zs.length = 0
  · have hx : zs = [] := List.length_eq_zero_iff.1 h0
    subst hx
    obtain ⟨a1, c1, rfl⟩ := h.nil
    go_enter Try.func53, Try.ntmps53
    go_wp2
    go_rounds 1
    go_ret
    exact ⟨rfl, rfl⟩
  · obtain ⟨b1, o1, c1, rfl, hc1⟩ := h.pos (by omega)
    have U1 := Lib.hid (upTo_step zs m)
    have U2 := Lib.hid (upTo_no zs m)
    have U3 := Lib.hid (upTo_all zs m)
    obtain ⟨n, hln⟩ : ∃ n, n = zs.length := ⟨_, rfl⟩
    rw [← hln] at U1 U2 U3 hc1 hn h0 ⊢
    have HC := Lib.hid hc1
    clear hc1 hln h
    go_enter Try.func53, Try.ntmps53
    go_wp2
    go_loop [9] (fun i => ∃ k : Nat, k ≤ n ∧ i = .int .i64 k ∧ Hid (upTo (zs.take k) m = true)) (fun i => n - (intOf i).toNat)
    case atStart => exact ⟨0, Nat.zero_le _, rfl, by rfl⟩
    case round =>
      obtain ⟨k, hk, rfl, hS⟩ := hrel
      by_cases hlt : k < n
      · have c1 : w.cell? ⟨b1, o1 + k, none⟩ = some (.int .i64 (zs.getD k 0)) := HC.out k hlt
        have u1 := U1.out k hlt
        have u2 := U2.out k hlt
        rw [hS.out, Bool.true_and] at u1
        obtain ⟨z, hz⟩ : ∃ z, z = zs.getD k 0 := ⟨_, rfl⟩
        rw [← hz] at c1 u1 u2
        clear hz
        by_cases h1 : z < 0
        · have HE := Lib.hid (u2 (inB_mkno (.inl h1)))
          clear u1 u2
          go_wp2
          go_ret
          exact ⟨ret_bool HE.out.symm, rfl⟩
        · by_cases h2 : m < z
          · have HE := Lib.hid (u2 (inB_mkno (.inr h2)))
            clear u1 u2
            go_wp2
            go_ret
            exact ⟨ret_bool HE.out.symm, rfl⟩
          · have HE := Lib.hid (u1.trans (inB_mk ⟨by omega, by omega⟩))
            clear u1 u2
            go_wp2
            go_round
            case rel => exact ⟨k + 1, by omega, by go_num, HE⟩
            case measure => simp [intOf]; omega
      · have hkn : k = n := by omega
        subst hkn
        have HE := Lib.hid (U3.out.symm.trans hS.out)
        go_wp2
        go_ret
        exact ⟨ret_bool HE.out.symm, rfl⟩

end Go.Proofs.Ytklgklkfolbjcaa
