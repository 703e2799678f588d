/-
  No statement is proved here: what parting does to lists: sums, sizes, and how often it is done; condition: numbers from 0 on with a small sum.
-/
import Derived.Test.YtocpigibognfpaaPartAll
import Derived.Test.YtocpigibognfpaaDrawWeb
namespace Go.Proofs.Ytocpigibognfpaa
open Go.RowKit

theorem sum_set : ∀ (zs : List Int) (i : Nat) (a : Int), i < zs.length → (zs.set i a).sum = zs.sum - zs.getD i 0 + a
  | [], i, a, h => by simp at h
  | z :: zs, 0, a, _ => by simp; omega
  | z :: zs, i + 1, a, h => by
    have ih := sum_set zs i a (by simpa using h)
    simp only [List.set_cons_succ, List.sum_cons, List.getD_cons_succ]
    omega
theorem sum_putAdd (zs : List Int) (i : Nat) (a : Int) (h : i < zs.length) : (putAdd zs i a).sum = zs.sum + a := by
  rw [putAdd, sum_set _ _ _ h]
  omega
theorem leftOf_lt {n i : Nat} (h : 0 < n) : leftOf n i < n := Nat.mod_lt _ h
theorem rightOf_lt {n i : Nat} (h : 0 < n) : rightOf n i < n := Nat.mod_lt _ h
theorem sum_partL (zs : List Int) (i : Nat) (h : i < zs.length) : (partL zs i).sum = zs.sum := by
  have h0 : 0 < zs.length := by omega
  unfold partL
  rw [sum_putAdd _ _ _ (by simpa [putAdd] using rightOf_lt h0), sum_putAdd _ _ _ (by simpa using leftOf_lt h0), sum_set _ _ _ h]
  omega

/-- Webs of which none gets too thick, however their lumps are parted. -/
def thin (n : Nat) (T : Int) (zs : List Int) : Prop := zs.length = n ∧ 2 ≤ n ∧ n ≤ 12 ∧ n % 2 = 0 ∧ zs.sum = T ∧ T ≤ 10000 ∧ ∀ z ∈ zs, 0 ≤ z
theorem le_sum : ∀ (zs : List Int), (∀ z ∈ zs, 0 ≤ z) → ∀ z ∈ zs, z ≤ zs.sum
  | [], _, z, hz => by simp at hz
  | y :: ys, h, z, hz => by
    have hy := h y List.mem_cons_self
    have hs : 0 ≤ ys.sum := by
      have : ∀ (l : List Int), (∀ z ∈ l, 0 ≤ z) → 0 ≤ l.sum := by
        intro l
        induction l with
        | nil => simp
        | cons a l ih =>
          intro hl
          have := ih (fun z hz => hl z (List.mem_cons_of_mem _ hz))
          have := hl a List.mem_cons_self
          simp only [List.sum_cons]
          omega
      exact this ys (fun z hz => h z (List.mem_cons_of_mem _ hz))
    simp only [List.sum_cons]
    rcases List.mem_cons.1 hz with e | e
    · subst e
      omega
    · have := le_sum ys (fun z hz => h z (List.mem_cons_of_mem _ hz)) z e
      omega
theorem thin_ok {n : Nat} {T : Int} {zs : List Int} (h : thin n T zs) : okW zs = true := by
  obtain ⟨h1, h2, h3, h4, h5, h6, h7⟩ := h
  simp only [okW, Bool.and_eq_true, decide_eq_true_eq]
  refine ⟨inB_mk ⟨by omega, by omega⟩, by omega, ?_⟩
  rw [upTo, List.all_eq_true]
  intro z hz
  have := le_sum zs h7 z hz
  exact inB_mk ⟨h7 z hz, by omega⟩
theorem nonneg_set {zs : List Int} {i : Nat} {a : Int} (h : ∀ z ∈ zs, 0 ≤ z) (ha : 0 ≤ a) : ∀ z ∈ zs.set i a, 0 ≤ z := by
  intro z hz
  rcases List.mem_or_eq_of_mem_set hz with h' | h'
  · exact h z h'
  · omega
theorem getD_nonneg {zs : List Int} (h : ∀ z ∈ zs, 0 ≤ z) (i : Nat) : 0 ≤ zs.getD i 0 := by
  by_cases hi : i < zs.length
  · rw [List.getD, List.getElem?_eq_getElem hi]
    exact h _ (List.getElem_mem hi)
  · simp [List.getD, List.getElem?_eq_none (Nat.le_of_not_lt hi)]
theorem thin_part {n : Nat} {T : Int} {zs : List Int} (h : thin n T zs) (i : Nat) (hi : i < n) : thin n T (partL zs i) := by
  have h' := h
  obtain ⟨h1, h2, h3, h4, h5, h6, h7⟩ := h
  refine ⟨by rw [partL_length]; exact h1, h2, h3, h4, by rw [sum_partL _ _ (by omega)]; exact h5, h6, ?_⟩
  have hT : 0 ≤ zs.sum := by
    have := sum_bd_all (upTo_mono (okW_up (thin_ok h')) (show (10000 : Int) ≤ 1000000 by omega))
    exact this.1
  have hq : 0 ≤ zs.sum / (zs.length : Int) := Int.ediv_nonneg hT (by omega)
  have hz := getD_nonneg h7 i
  have hm : moreOf zs i = max 0 (zs.getD i 0 - zs.sum / (zs.length : Int)) := rfl
  unfold partL putAdd
  have a1 := nonneg_set (i := i) h7 (show 0 ≤ zs.getD i 0 - moreOf zs i by omega)
  have a2 := nonneg_set (i := leftOf zs.length i) a1 (show 0 ≤ (zs.set i (zs.getD i 0 - moreOf zs i)).getD (leftOf zs.length i) 0 + (moreOf zs i - moreOf zs i / 2) by have := getD_nonneg a1 (leftOf zs.length i); omega)
  exact nonneg_set a2 (by have := getD_nonneg a2 (rightOf zs.length i); omega)
theorem okD_thin {zs : List Int} (h : okD zs) : thin zs.length zs.sum zs := by
  obtain ⟨h1, h2, h3, h4⟩ := h
  have hb : ∀ k, k ≤ zs.length → (zs.take k).sum ≤ 999 * (k : Int) := by
    intro k
    induction k with
    | zero => simp
    | succ k ih =>
      intro hk
      have := ih (by omega)
      have hz := upTo_get h4 k (by omega)
      rw [sum_step zs k (by omega)]
      omega
  have hT := hb zs.length (Nat.le_refl _)
  rw [sum_all] at hT
  refine ⟨rfl, h1, by omega, h3, rfl, by omega, ?_⟩
  intro z hz
  rw [upTo, List.all_eq_true] at h4
  exact (inB_of (h4 z hz)).1

/-- What the stripe that is parted has behind it. -/
theorem partL_at (zs : List Int) (i : Nat) (hi : i < zs.length) (h2 : 2 ≤ zs.length) : (partL zs i).getD i 0 = min (zs.getD i 0) (zs.sum / (zs.length : Int)) := by
  have hl := left_eq hi
  have hr := right_eq hi
  have hil : leftOf zs.length i ≠ i := by rw [hl]; split <;> omega
  have hir : rightOf zs.length i ≠ i := by rw [hr]; split <;> omega
  unfold partL putAdd
  rw [getD_set _ _ _ _ (by simpa using hi), if_neg hir, getD_set _ _ _ _ (by simpa using hi), if_neg hil, getD_set _ _ _ _ hi, if_pos rfl]
  unfold moreOf
  omega

/-- A web of which the first lump has been parted so many times. -/
def itP (t : Int) : Nat → List Int → List Int
  | 0, zs => zs
  | k + 1, zs => match lumpsTo zs t zs.length with
    | [] => zs
    | i :: _ => itP t k (partL zs i.toNat)

/-- How often it is done; at most f times. -/
def cntP (t : Int) : Nat → List Int → Nat
  | 0, _ => 0
  | f + 1, zs => match lumpsTo zs t zs.length with
    | [] => 0
    | i :: _ => 1 + cntP t f (partL zs i.toNat)
theorem paF_eq {n : Nat} {T t : Int} : ∀ (f : Nat) (zs : List Int) (c : Int), thin n T zs → paF t f zs c = (itP t (cntP t f zs) zs, c + (cntP t f zs : Int), 0) ∧ thin n T (itP t (cntP t f zs) zs) ∧ cntP t f zs ≤ f ∧ (cntP t f zs < f → lumpsTo (itP t (cntP t f zs) zs) t (itP t (cntP t f zs) zs).length = [])
  | 0, zs, c, h => by
    refine ⟨?_, h, Nat.le_refl _, fun hh => absurd hh (Nat.lt_irrefl _)⟩
    rw [paF_zero]
    simp [cntP, itP]
  | f + 1, zs, c, h => by
    cases hl : lumpsTo zs t zs.length with
    | nil =>
      have e1 : cntP t (f + 1) zs = 0 := by rw [cntP, hl]
      rw [e1, paF_none hl]
      refine ⟨by simp [itP], h, by omega, fun _ => ?_⟩
      simpa [itP] using hl
    | cons i tl =>
      obtain ⟨k, hk, rfl⟩ := lumpsTo_mem zs t zs.length i (by rw [hl]; exact List.mem_cons_self)
      have e1 : cntP t (f + 1) zs = cntP t f (partL zs k) + 1 := by
        rw [cntP, hl]
        show 1 + cntP t f (partL zs ((k : Int)).toNat) = _
        rw [Int.toNat_natCast]
        omega
      have e2 : ∀ m, itP t (m + 1) zs = itP t m (partL zs k) := fun m => by
        rw [itP, hl]
        show itP t m (partL zs ((k : Int)).toNat) = _
        rw [Int.toNat_natCast]
      have hp := thin_part h k (by rw [← h.1]; exact hk)
      obtain ⟨a1, a2, a3, a4⟩ := paF_eq f (partL zs k) (c + 1) hp
      rw [e1, e2, paF_some hl, if_pos (thin_ok hp), a1]
      refine ⟨?_, a2, by omega, fun hh => a4 (by omega)⟩
      congr 2
      omega

theorem lump_mem (zs : List Int) (t : Int) (k : Nat) : ∀ (n : Nat), ((k : Int) ∈ lumpsTo zs t n) ↔ (k < n ∧ lumpB zs t k = true)
  | 0 => by simp [lumpsTo]
  | n + 1 => by
    have ih := lump_mem zs t k n
    rw [lumpsTo]
    by_cases hb : lumpB zs t n = true
    · rw [if_pos hb, List.mem_append, ih]
      constructor
      · rintro (⟨h1, h2⟩ | h)
        · exact ⟨by omega, h2⟩
        · have e : k = n := Int.ofNat_inj.1 (by simpa using h)
          subst e
          exact ⟨by omega, hb⟩
      · rintro ⟨h1, h2⟩
        by_cases e : k = n
        · exact .inr (by simp [e])
        · exact .inl ⟨by omega, h2⟩
    · rw [if_neg hb, ih]
      constructor
      · rintro ⟨h1, h2⟩
        exact ⟨by omega, h2⟩
      · rintro ⟨h1, h2⟩
        refine ⟨?_, h2⟩
        by_cases e : k = n
        · subst e
          exact absurd h2 hb
        · omega
theorem lump_dec (zs : List Int) (t : Int) (k n : Nat) (h : k < n) : decide ((k : Int) ∈ lumpsTo zs t n) = lumpB zs t k := by
  cases hb : lumpB zs t k with
  | true => exact decide_eq_true ((lump_mem zs t k n).2 ⟨h, hb⟩)
  | false =>
    refine decide_eq_false fun h' => ?_
    rw [((lump_mem zs t k n).1 h').2] at hb
    cases hb

theorem itP_thin {n : Nat} {T t : Int} : ∀ (k : Nat) (zs : List Int), thin n T zs → thin n T (itP t k zs)
  | 0, zs, h => h
  | k + 1, zs, h => by
    rw [itP]
    split
    · exact h
    · rename_i i tl hl
      obtain ⟨j, hj, rfl⟩ := lumpsTo_mem zs t zs.length i (by rw [hl]; exact List.mem_cons_self)
      rw [Int.toNat_natCast]
      exact itP_thin k _ (thin_part h j (by rw [← h.1]; exact hj))
/-- What lies between: as long as it is done, there is a lump, and the first one is parted. -/
theorem itP_step {t : Int} : ∀ (f : Nat) (k : Nat) (zs : List Int), k < cntP t f zs → ∃ (i : Nat) (tl : List Int), i < (itP t k zs).length ∧ lumpsTo (itP t k zs) t (itP t k zs).length = (i : Int) :: tl ∧ itP t (k + 1) zs = partL (itP t k zs) i
  | 0, k, zs, h => by simp [cntP] at h
  | f + 1, k, zs, h => by
    cases hl : lumpsTo zs t zs.length with
    | nil =>
      rw [cntP, hl] at h
      simp at h
    | cons x tl =>
      obtain ⟨j, hj, rfl⟩ := lumpsTo_mem zs t zs.length x (by rw [hl]; exact List.mem_cons_self)
      have e2 : ∀ m, itP t (m + 1) zs = itP t m (partL zs j) := fun m => by
        rw [itP, hl]
        show itP t m (partL zs ((j : Int)).toNat) = _
        rw [Int.toNat_natCast]
      have e1 : cntP t (f + 1) zs = cntP t f (partL zs j) + 1 := by
        rw [cntP, hl]
        show 1 + cntP t f (partL zs ((j : Int)).toNat) = _
        rw [Int.toNat_natCast]
        omega
      cases k with
      | zero => exact ⟨j, tl, hj, hl, by rw [e2]; rfl⟩
      | succ k =>
        obtain ⟨i, tl', h1, h2, h3⟩ := itP_step (t := t) f k (partL zs j) (by rw [e1] at h; omega)
        rw [e2, e2]
        exact ⟨i, tl', h1, h2, h3⟩
theorem cntP_zero (t : Int) (f : Nat) (zs : List Int) : decide (cntP t f zs = 0) = (decide (f = 0) || decide ((lumpsTo zs t zs.length).length = 0)) := by
  cases f with
  | zero => simp [cntP]
  | succ f =>
    cases hl : lumpsTo zs t zs.length with
    | nil => rw [cntP, hl]; simp
    | cons x tl =>
      have : cntP t (f + 1) zs = 1 + cntP t f (partL zs x.toNat) := by rw [cntP, hl]
      rw [this]
      simp
end Go.Proofs.Ytocpigibognfpaa
