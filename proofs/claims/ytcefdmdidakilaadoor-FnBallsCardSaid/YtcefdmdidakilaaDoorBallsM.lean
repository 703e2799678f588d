/-
  No statement is proved here: the numbers of turns, balls and ties; no condition.
-/
import Derived.Test.YtcefdmdidakilaaDoorBall
import Derived.Test.YtcefdmdidakilaaDoorTies
namespace Go.Proofs.YtcefdmdidakilaaDoor
open Go.RowKit

theorem turns_back {l r : Int} (h : (inB l 0 100000 && inB r 1 500) = true) : l.tdiv r * r + l.tmod r = l ∧ 0 ≤ l.tmod r ∧ l.tmod r < r := by
  rw [Bool.and_eq_true] at h
  obtain ⟨h1, h2⟩ := inB_of h.1
  obtain ⟨h3, h4⟩ := inB_of h.2
  rw [Int.tdiv_eq_ediv_of_nonneg h1, Int.tmod_eq_emod_of_nonneg h1]
  refine ⟨?_, Int.emod_nonneg _ (by omega), Int.emod_lt_of_pos l (by omega)⟩
  rw [Int.mul_comm]
  exact Int.mul_ediv_add_emod l r
/-- A length makes so many whole turns, and no more. -/
theorem ball_exists {s g y l : Int} (hb : ballB s g y = true) (hl : l ≤ 100000) : ∀ (n k : Nat), (k : Int) + n = 100001 → (∀ j, j < k → bturn s g y j ≤ l - bsum s g y j) → ∃ k', IsBall s g y l k'
  | 0, k, hk, h => by
    have hge := bsum_ge hb k (by omega)
    have ht := (bturn_bd hb (k - 1) (by omega)).2.2.1
    have hj := h (k - 1) (by omega)
    have hs : bsum s g y k = bsum s g y (k - 1) + bturn s g y (k - 1) := by
      obtain ⟨q, rfl⟩ : ∃ q, k = q + 1 := ⟨k - 1, by omega⟩
      rfl
    omega
  | n + 1, k, hk, h => by
    by_cases hlt : bturn s g y k ≤ l - bsum s g y k
    · exact ball_exists hb hl n (k + 1) (by push_cast at *; omega) fun j hj => by
        by_cases hjk : j = k
        · subst hjk; exact hlt
        · exact h j (by omega)
    · exact ⟨k, h, by omega⟩
theorem ball_is {s g y l : Int} (hb : ballB s g y = true) (h0 : 0 ≤ l) (hl : l ≤ 100000) : ∃ (k : Nat) (x : Int), ballF l s g y = ((k : Int), x, 0) ∧ x = l - bsum s g y k ∧ 0 ≤ x ∧ x < bturn s g y k ∧ k ≤ 100000 := by
  obtain ⟨k, hk⟩ := ball_exists hb hl 100001 0 (by omega) (fun j hj => by omega)
  have hx0 : 0 ≤ l - bsum s g y k := by
    cases k with
    | zero => simpa [bsum] using h0
    | succ q =>
      have := hk.1 q (by omega)
      rw [bsum]
      omega
  have hk1 : k ≤ 100000 := by
    by_cases h : k ≤ 100000
    · exact h
    · exfalso
      have h1 := hk.1 100000 (by omega)
      have h2 := (bturn_bd hb 100000 (by omega)).2.2.1
      have h3 := bsum_ge hb 100000 (by omega)
      omega
  exact ⟨k, _, ballF_yes (by rw [hb, inB_mk ⟨h0, hl⟩]; rfl) hk rfl, rfl, hx0, by have := hk.2; omega, hk1⟩
theorem tiesTo_get (e : Int) : ∀ (k j : Nat), j < k → (tiesTo e k).getD j 0 = ((j : Int) + 1) * e := fun k j h => by
  unfold tiesTo
  simp [List.getD, h]
theorem ties_all {t e : Int} (h0 : 0 ≤ t) (h1 : t ≤ 1000) (e1 : 1 ≤ e) (e2 : e ≤ 1000) : ((tiesL t e).length : Int) = (t + e - 1) / e ∧ ∀ j : Nat, j < (tiesL t e).length → (tiesL t e).getD j 0 = min t (e * ((j : Int) + 1)) := by
  obtain ⟨T, rfl⟩ : ∃ T : Nat, t = (T : Int) := ⟨t.toNat, by omega⟩
  obtain ⟨E, rfl⟩ : ∃ E : Nat, e = (E : Int) := ⟨e.toNat, by omega⟩
  by_cases hT : 0 < T
  · obtain ⟨q, rfl⟩ : ∃ q, T = q + 1 := ⟨T - 1, by omega⟩
    have hd := div_at (n := q) (E := E) (by omega)
    have hL := tiesL_at (T := q + 1) (E := E) (k := q / E) (by omega) (by omega) (by omega)
    rw [hL]
    have hlen : (tiesTo (E : Int) (q / E) ++ [((q + 1 : Nat) : Int)]).length = q / E + 1 := by rw [List.length_append, tiesTo_length]; rfl
    rw [hlen]
    refine ⟨?_, fun j hj => ?_⟩
    · rw [show ((q + 1 : Nat) : Int) + (E : Int) - 1 = (q : Int) + (E : Int) by push_cast; omega, Int.add_ediv_of_dvd_right (Int.dvd_refl _), Int.ediv_self (by omega)]
      push_cast
      rfl
    · by_cases hjk : j < q / E
      · have e3 : (tiesTo (E : Int) (q / E) ++ [((q + 1 : Nat) : Int)]).getD j 0 = (tiesTo (E : Int) (q / E)).getD j 0 := by
          simp [List.getD, List.getElem?_append, tiesTo_length, hjk]
        rw [e3, tiesTo_get _ _ _ hjk, Int.mul_comm]
        have h4 : (j + 1) * E ≤ q / E * E := Nat.mul_le_mul_right E hjk
        have h5 : (E : Int) * ((j : Int) + 1) = (((j + 1) * E : Nat) : Int) := by push_cast; rw [Int.mul_comm]
        rw [h5]
        omega
      · obtain rfl : j = q / E := by omega
        have e3 : (tiesTo (E : Int) (q / E) ++ [((q + 1 : Nat) : Int)]).getD (q / E) 0 = ((q + 1 : Nat) : Int) := by
          simp [List.getD, tiesTo_length]
        have h5 : (E : Int) * (((q / E : Nat) : Int) + 1) = (((q / E + 1) * E : Nat) : Int) := by push_cast; rw [Int.mul_comm]
        rw [e3, h5]
        omega
  · obtain rfl : T = 0 := by omega
    rw [show ((0 : Nat) : Int) = 0 from rfl, tiesL_none]
    refine ⟨?_, fun j hj => by simp at hj⟩
    have : (0 + (E : Int) - 1) / (E : Int) = 0 := Int.ediv_eq_zero_of_lt (by omega) (by omega)
    rw [this]
    rfl
end Go.Proofs.YtcefdmdidakilaaDoor
