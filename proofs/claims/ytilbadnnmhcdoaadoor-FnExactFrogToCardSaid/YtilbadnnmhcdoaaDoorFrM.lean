/-
  No statement is proved here: a fabric's first rows, and the yarn of those behind them, as numbers; no condition.
-/
import Derived.Test.YtilbadnnmhcdoaaDoorYarnS0
namespace Go.Proofs.YtilbadnnmhcdoaaDoor
open Go.RowKit

theorem rowAt_drop (L : List ByteArray) (r j : Nat) : rowAt (L.drop r) j = rowAt L (r + j) := by
  unfold rowAt
  simp [List.getD]
theorem sumN_drop (L : List ByteArray) (r : Nat) : ∀ k, sumN (L.drop r) k = sumN L (r + k) - sumN L r
  | 0 => by simp [sumN]
  | k + 1 => by
    rw [sumN, sumN_drop L r k, rowAt_drop, show r + (k + 1) = (r + k) + 1 by omega, sumN]
    omega
/-- What FrogTo answers. -/
def frogF (c : Int) (L : List ByteArray) (r g : Int) : (Int × List ByteArray) × Int × Int :=
  if askF c L (inB r 0 L.length && inB g 1 100) = 0 then ((c, L.take r.toNat), (sumN L L.length - sumN L r.toNat) * g, 0) else ((0, []), 0, askF c L (inB r 0 L.length && inB g 1 100))
theorem frogF_yes {c : Int} {L : List ByteArray} {r g : Int} (h : askF c L (inB r 0 L.length && inB g 1 100) = 0) : frogF c L r g = ((c, L.take r.toNat), (sumN L L.length - sumN L r.toNat) * g, 0) := if_pos h
theorem frogF_no {c : Int} {L : List ByteArray} {r g : Int} (h : ¬ askF c L (inB r 0 L.length && inB g 1 100) = 0) : frogF c L r g = ((0, []), 0, askF c L (inB r 0 L.length && inB g 1 100)) := if_neg h
theorem frogF_len {c : Int} {L : List ByteArray} {r g : Int} (hn : L.length ≤ 1048576) : (frogF c L r g).1.2.length ≤ 1048577 := by
  unfold frogF
  split
  · simp only [List.length_take]; omega
  · simp
theorem sumN_from (L : List ByteArray) (R k : Nat) (h : R ≤ k) : sumN L R ≤ sumN L k := by
  obtain ⟨d, rfl⟩ : ∃ d, k = R + d := ⟨k - R, by omega⟩
  induction d with
  | zero => exact Int.le_refl _
  | succ d ih =>
    have := (needs_bd (rowAt L (R + d)) (rowAt L (R + d)).size).1
    have h2 := ih (by omega)
    rw [show R + (d + 1) = (R + d) + 1 by omega, sumN]
    unfold needsF
    omega
theorem askF_not (c : Int) (L : List ByteArray) : ¬ askF c L false = 0 := by
  unfold askF
  split <;> simp
end Go.Proofs.YtilbadnnmhcdoaaDoor
