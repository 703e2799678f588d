/-
  No statement is proved here: how large the numerators of several heaps' shares are; no condition.
-/
import Derived.Test.YtekejhnhkifcfaaCs
namespace Go.Proofs.Ytekejhnhkifcfaa
open Go.RowKit

theorem le_sum8 {z : Nat → Int} (h : okH z = true) {k : Nat} (hk : k < 8) : z k ≤ sumTo z 8 := by
  have b0 := okH_of h 0 (by omega)
  have b1 := okH_of h 1 (by omega)
  have b2 := okH_of h 2 (by omega)
  have b3 := okH_of h 3 (by omega)
  have b4 := okH_of h 4 (by omega)
  have b5 := okH_of h 5 (by omega)
  have b6 := okH_of h 6 (by omega)
  have b7 := okH_of h 7 (by omega)
  have e : sumTo z 8 = z 0 + z 1 + z 2 + z 3 + z 4 + z 5 + z 6 + z 7 := by simp [sumTo]
  rw [e]
  match k, hk with
  | 0, _ => omega
  | 1, _ => omega
  | 2, _ => omega
  | 3, _ => omega
  | 4, _ => omega
  | 5, _ => omega
  | 6, _ => omega
  | 7, _ => omega
  | k + 8, hk => omega
theorem num_bd {H : Nat → Nat → Int} {n : Nat} (hok : ∀ i, i < n → okH (H i) = true) (h : LcOk (sumH H) n) : ∀ i, i < n → ∀ k, k < 8 → 0 ≤ numR H n i k ∧ numR H n i k ≤ lcTo (sumH H) n := fun i hi k hk => by
  have hs := h.1 i hi
  have hl := h.2 n (Nat.le_refl _)
  have hz := okH_of (hok i hi) k hk
  have hle : H i k ≤ sumH H i := le_sum8 (hok i hi) hk
  have hq : 0 ≤ lcTo (sumH H) n / sumH H i := Int.ediv_nonneg (by omega) (by omega)
  unfold numR
  refine ⟨Int.mul_nonneg hz.1 hq, ?_⟩
  exact Int.le_trans (Int.mul_le_mul_of_nonneg_right hle hq) (Int.mul_ediv_self_le (by omega))
end Go.Proofs.Ytekejhnhkifcfaa
