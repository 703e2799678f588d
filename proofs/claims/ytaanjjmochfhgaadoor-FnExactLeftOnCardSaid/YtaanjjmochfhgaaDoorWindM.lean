/-
  No statement is proved here: strands that are wound onto one reel, one after the other, and whether they can be on it; condition: the meets and the strands are valid.
-/
import Derived.Test.YtaanjjmochfhgaaDoorReelS
import Derived.Test.YtaanjjmochfhgaaDoorReelA
namespace Go.Proofs.YtaanjjmochfhgaaDoor
open Go.RowKit

/-- The dyes that may be with the first k strands. -/
def fitsTo (m : Nat → Int) (ss : List Sn) : Nat → Int
  | 0 => 63
  | k + 1 => if k = 0 then m (dy ss 0) else bits BinOp.and IntKind.u8 (fitsTo m ss k) (m (dy ss k))
/-- The reel takes strand k. -/
def takesAt (m : Nat → Int) (hold : Int) (ss : List Sn) (k : Nat) : Bool := decide ((sat ss k).1 ≤ hold - sumS ss k) && (decide (k = 0) || hasB (fitsTo m ss k) (dy ss k))
theorem row_small {m : Nat → Int} (h8 : Bytes6 m) (h : meetsB m = true) {a : Nat} (ha : a < 6) : 0 ≤ m a ∧ m a ≤ 63 := by
  have h1 := meetsB_row h ha
  unfold rowB at h1
  rw [Bool.and_eq_true, beq_iff_eq] at h1
  have := h8 a
  omega
theorem fits_bd {m : Nat → Int} {ss : List Sn} (h8 : Bytes6 m) (h : meetsB m = true) (hd : ∀ k, k < ss.length → dy ss k < 6) : ∀ k, k ≤ ss.length → 0 ≤ fitsTo m ss k ∧ fitsTo m ss k ≤ 63
  | 0, _ => by simp [fitsTo]
  | k + 1, hk => by
    rw [fitsTo]
    split
    · exact row_small h8 h (hd 0 (by omega))
    · exact (has_and' (d := 0) (fits_bd h8 h hd k (by omega)) (row_small h8 h (hd k (by omega))) (by omega)).2
theorem fits_has {m : Nat → Int} {ss : List Sn} (h8 : Bytes6 m) (h : meetsB m = true) (hd : ∀ k, k < ss.length → dy ss k < 6) {d : Nat} (hd6 : d < 6) :
    ∀ k, k < ss.length → (hasB (fitsTo m ss (k + 1)) d = true ↔ ∀ j, j ≤ k → hasB (m (dy ss j)) d = true)
  | 0, _ => by
    rw [fitsTo, if_pos rfl]
    exact ⟨fun hh j hj => by obtain rfl : j = 0 := by omega
                             exact hh, fun hh => hh 0 (Nat.le_refl _)⟩
  | k + 1, hk => by
    have ih := fits_has h8 h hd hd6 k (by omega)
    rw [fitsTo, if_neg (by omega), (has_and' (fits_bd h8 h hd (k + 1) (by omega)) (row_small h8 h (hd (k + 1) hk)) hd6).1, Bool.and_eq_true, ih]
    exact ⟨fun hh j hj => by
      by_cases hjk : j = k + 1
      · subst hjk; exact hh.2
      · exact hh.1 j (by omega), fun hh => ⟨fun j hj => hh j (by omega), hh (k + 1) (Nat.le_refl _)⟩⟩
theorem may_comm {m : Nat → Int} (h : meetsB m = true) {a b : Nat} (ha : a < 6) (hb : b < 6) : mayB m a b = mayB m b a := by
  have := meetsB_sym h ha hb
  unfold symB at this
  exact beq_iff_eq.1 this
theorem sumS_mono {ss : List Sn} (h : allS ss = true) {k : Nat} : ∀ n, k ≤ n → n ≤ ss.length → sumS ss k ≤ sumS ss n
  | 0, hk, _ => by obtain rfl : k = 0 := by omega
                   exact Int.le_refl _
  | n + 1, hk, hn => by
    by_cases hkn : k = n + 1
    · subst hkn; exact Int.le_refl _
    · have ih := sumS_mono h (k := k) n (by omega) (by omega)
      have := okS_at (allS_get h n (by omega))
      rw [sumS]
      omega
/-- The reel takes all strands if, and only if, they can be on it. -/
theorem wind_on {m : Nat → Int} {hold : Int} {ss : List Sn} (h8 : Bytes6 m) (h : meetsB m = true) (hal : allS ss = true) (hh : 0 ≤ hold) (hd : ∀ k, k < ss.length → dy ss k < 6) :
    onB m hold ss = true ↔ ∀ k, k < ss.length → takesAt m hold ss k = true := by
  have hfit : ∀ k, k < ss.length → (k = 0 ∨ hasB (fitsTo m ss k) (dy ss k) = true ↔ ∀ j, j < k → mayB m (dy ss k) (dy ss j) = true) := fun k hk => by
    cases k with
    | zero => exact ⟨fun _ j hj => by omega, fun _ => .inl rfl⟩
    | succ q =>
      rw [fits_has h8 h hd (hd _ hk) q (by omega)]
      exact ⟨fun hx j hj => by
        rcases hx with hx | hx
        · omega
        · rw [may_comm h (hd _ hk) (hd j (by omega))]; exact hx j (by omega), fun hx => .inr fun j hj => by
          have := hx j (by omega)
          rw [may_comm h (hd _ hk) (hd j (by omega))] at this
          exact this⟩
  constructor
  · intro ho k hk
    have hp : ∀ i, i < ss.length → ∀ j, j < i → mayB m (dy ss i) (dy ss j) = true := fun i hi j hj => by
      cases hm : mayB m (dy ss i) (dy ss j) with
      | true => rfl
      | false => rw [onB_no hi hj hm] at ho; cases ho
    rw [onB_all hp] at ho
    have hs := of_decide_eq_true ho
    have hmono := sumS_mono hal (k := k + 1) ss.length hk (Nat.le_refl _)
    rw [sumS] at hmono
    unfold takesAt
    rw [Bool.and_eq_true, Bool.or_eq_true]
    refine ⟨decide_eq_true (by omega), ?_⟩
    rcases (hfit k hk).2 (hp k hk) with h0 | h1
    · exact .inl (decide_eq_true h0)
    · exact .inr h1
  · intro ht
    have hp : ∀ i, i < ss.length → ∀ j, j < i → mayB m (dy ss i) (dy ss j) = true := fun i hi => by
      have h1 := ht i hi
      unfold takesAt at h1
      rw [Bool.and_eq_true, Bool.or_eq_true] at h1
      refine (hfit i hi).1 ?_
      rcases h1.2 with h2 | h2
      · exact .inl (of_decide_eq_true h2)
      · exact .inr h2
    rw [onB_all hp]
    refine decide_eq_true ?_
    by_cases h0 : ss.length = 0
    · rw [h0]
      exact hh
    · obtain ⟨q, hq⟩ : ∃ q, ss.length = q + 1 := ⟨ss.length - 1, by omega⟩
      have h1 := ht q (by omega)
      unfold takesAt at h1
      rw [Bool.and_eq_true] at h1
      have h2 := of_decide_eq_true h1.1
      rw [hq, sumS]
      omega
end Go.Proofs.YtaanjjmochfhgaaDoor
