/-
  No statement is proved here: the loops from which a loop was made, as numbers; no condition.
-/
import Derived.Test.YtcdjabhdbobghaaDoorGoM
namespace Go.Proofs.YtcdjabhdbobghaaDoor
open Go.RowKit

/-- n places from t on. -/
def placesF (t : Int) : Nat → List Int
  | 0 => []
  | k + 1 => placesF t k ++ [t + k]
theorem placesF_length (t : Int) : ∀ n, (placesF t n).length = n
  | 0 => rfl
  | k + 1 => by rw [placesF, List.length_append, placesF_length t k]; rfl
theorem placesF_get (t : Int) : ∀ n j, j < n → (placesF t n).getD j 0 = t + j
  | 0, j, h => absurd h (Nat.not_lt_zero j)
  | n + 1, j, h => by
    have hl := placesF_length t n
    by_cases e : j = n
    · subst e
      rw [placesF, List.getD_eq_getElem?_getD, List.getElem?_append_right (by omega), hl]
      simp
    · have ih := placesF_get t n j (by omega)
      rw [List.getD_eq_getElem?_getD] at ih
      rw [placesF, List.getD_eq_getElem?_getD, List.getElem?_append_left (by omega), ih]
/-- Whether the stitch k makes the loop a. -/
def makesAt (s : ByteArray) (a : Int) (k : Nat) : Bool := decide (sumB mk s k ≤ a) && decide (a < sumB mk s (k + 1))
/-- The loops below that the first k stitches tell of a loop. -/
def fromTo (s : ByteArray) (a : Int) : Nat → List Int
  | 0 => []
  | k + 1 => fromTo s a k ++ (if makesAt s a k = true then placesF (sumB tk s k) (tk (chAt s k)).toNat else [])
theorem fromTo_none {s : ByteArray} {a : Int} : ∀ {k : Nat}, (∀ j, j < k → makesAt s a j = false) → fromTo s a k = []
  | 0, _ => rfl
  | k + 1, h => by
    rw [fromTo, fromTo_none (fun j hj => h j (by omega)), h k (by omega)]
    rfl
theorem sumMk_mono {s : ByteArray} : ∀ {j k : Nat}, j ≤ k → sumB mk s j ≤ sumB mk s k
  | j, 0, h => by rw [show j = 0 by omega]; exact Int.le_refl _
  | j, k + 1, h => by
    by_cases e : j = k + 1
    · rw [e]; exact Int.le_refl _
    · have := sumMk_mono (s := s) (j := j) (k := k) (by omega)
      have hm := mk_bd (chAt s k)
      rw [show sumB mk s (k + 1) = sumB mk s k + mk (chAt s k) from rfl]
      omega
theorem fromTo_at {s : ByteArray} {a : Int} {k : Nat} (h : makesAt s a k = true) : ∀ m, k < m → fromTo s a m = placesF (sumB tk s k) (tk (chAt s k)).toNat
  | 0, hm => absurd hm (Nat.not_lt_zero k)
  | m + 1, hm => by
    unfold makesAt at h
    rw [Bool.and_eq_true, decide_eq_true_eq, decide_eq_true_eq] at h
    by_cases e : m = k
    · subst e
      rw [fromTo, fromTo_none, show makesAt s a m = true by unfold makesAt; simp [h.1, h.2]]
      · rfl
      · intro j hj
        have := sumMk_mono (s := s) (j := j + 1) (k := m) (by omega)
        unfold makesAt
        rw [show decide (a < sumB mk s (j + 1)) = false by rw [decide_eq_false_iff_not]; omega]
        simp
    · have h' : makesAt s a k = true := by unfold makesAt; simp [h.1, h.2]
      rw [fromTo, fromTo_at h' m (by omega), show makesAt s a m = false by
        have := sumMk_mono (s := s) (j := k + 1) (k := m) (by omega)
        unfold makesAt
        rw [show decide (sumB mk s m ≤ a) = false by rw [decide_eq_false_iff_not]; omega]
        simp]
      simp
theorem fromTo_length {s : ByteArray} {a : Int} (m : Nat) (h : ∀ k, k < m → tk (chAt s k) ≤ 2) : (fromTo s a m).length ≤ 2 := by
  by_cases hx : ∃ k, k < m ∧ makesAt s a k = true
  · obtain ⟨k, hk, hm⟩ := hx
    rw [fromTo_at hm m hk, placesF_length]
    have := h k hk
    omega
  · rw [fromTo_none]
    · simp
    · intro j hj
      cases e : makesAt s a j with
      | false => rfl
      | true => exact absurd ⟨j, hj, e⟩ hx
/-- What FromOf answers. -/
def fromF (c : Int) (L : List ByteArray) (r a : Int) : List Int × Int :=
  if loopF c L r a = 0 then (if r = 0 then ([], 0) else (fromTo (rowAt L (r.toNat - 1)) a (rowAt L (r.toNat - 1)).size, 0)) else ([], loopF c L r a)
theorem fromTo_short {s : ByteArray} {a : Int} (m : Nat) : (fromTo s a m).length ≤ 2 := by
  by_cases hx : ∃ k, k < m ∧ makesAt s a k = true
  · obtain ⟨k, hk, hm⟩ := hx
    rw [fromTo_at hm m hk, placesF_length]
    have : tk (chAt s k) ≤ 2 := by
      unfold tk
      repeat' split
      all_goals omega
    omega
  · rw [fromTo_none]
    · simp
    · intro j hj
      cases e : makesAt s a j with
      | false => rfl
      | true => exact absurd ⟨j, hj, e⟩ hx
theorem fromF_len {c : Int} {L : List ByteArray} {r a : Int} (_ : L.length ≤ 1048576) : (fromF c L r a).1.length ≤ 2097152 := by
  unfold fromF
  split
  · split
    · simp
    · exact Nat.le_trans (fromTo_short _) (by omega)
  · simp
end Go.Proofs.YtcdjabhdbobghaaDoor
