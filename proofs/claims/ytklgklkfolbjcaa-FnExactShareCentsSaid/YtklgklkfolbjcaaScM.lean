/-
  No statement is proved here: cents that are shared, as numbers; no condition.
-/
import Derived.Test.YtklgklkfolbjcaaUpTo
import Derived.Test.YtklgklkfolbjcaaSumOf
namespace Go.Proofs.Ytklgklkfolbjcaa
open Go.ChangeShapes Go.WideShapes Go.ChangeAt Go.RowKit

/-- How many of the first numbers a test holds of. -/
def cnt (p : Nat → Bool) : Nat → Nat
  | 0 => 0
  | k + 1 => cnt p k + if p k = true then 1 else 0
theorem cnt_le (p : Nat → Bool) : ∀ n, cnt p n ≤ n
  | 0 => by simp [cnt]
  | n + 1 => by
    have := cnt_le p n
    simp only [cnt]
    split <;> omega
theorem cnt_mono {p q : Nat → Bool} : ∀ n, (∀ i, i < n → p i = true → q i = true) → cnt p n ≤ cnt q n
  | 0, _ => by simp [cnt]
  | n + 1, h => by
    have h1 : cnt p n ≤ cnt q n := cnt_mono n fun i hi => h i (by omega)
    have h2 := h n (by omega)
    simp only [cnt]
    by_cases hp : p n = true
    · rw [if_pos hp, if_pos (h2 hp)]
      omega
    · rw [if_neg hp]
      omega
theorem cnt_strict {p q : Nat → Bool} : ∀ n x, (∀ i, i < n → p i = true → q i = true) → x < n → p x = false → q x = true → cnt p n < cnt q n
  | 0, x, _, h, _, _ => by omega
  | n + 1, x, h, hx, hp, hq => by
    have h1 : cnt p n ≤ cnt q n := cnt_mono n fun i hi => h i (by omega)
    have h2 := h n (by omega)
    simp only [cnt]
    by_cases e : x = n
    · subst e
      rw [if_neg (by rw [hp]; simp), if_pos hq]
      omega
    · have := cnt_strict n x (fun i hi => h i (by omega)) (by omega) hp hq
      by_cases hpn : p n = true
      · rw [if_pos hpn, if_pos (h2 hpn)]
        omega
      · rw [if_neg hpn]
        omega
theorem cnt_free {p : Nat → Bool} : ∀ n, cnt p n < n → ∃ i, i < n ∧ p i = false
  | 0, h => by omega
  | n + 1, h => by
    simp only [cnt] at h
    by_cases hp : p n = true
    · rw [if_pos hp] at h
      obtain ⟨i, hi, h1⟩ := cnt_free (p := p) n (by omega)
      exact ⟨i, by omega, h1⟩
    · exact ⟨n, by omega, by simpa using hp⟩
theorem cnt_same {p q : Nat → Bool} : ∀ n, (∀ i, i < n → p i = q i) → cnt p n = cnt q n
  | 0, _ => rfl
  | n + 1, h => by
    simp only [cnt]
    rw [cnt_same n fun i hi => h i (by omega), h n (by omega)]
/-- One more. -/
def put1 (G : Nat → Bool) (b : Nat) : Nat → Bool := fun i => if i = b then true else G i
theorem cnt_put {p : Nat → Bool} {b : Nat} (hp : p b = false) : ∀ n, b < n → cnt (put1 p b) n = cnt p n + 1
  | 0, h => by omega
  | n + 1, h => by
    simp only [cnt]
    by_cases e : b = n
    · subst e
      rw [cnt_same (p := put1 p b) (q := p) b (fun i hi => if_neg (by omega)), if_pos (show put1 p b b = true from if_pos rfl), if_neg (by rw [hp]; simp)]
    · rw [cnt_put hp n (by omega), show put1 p b n = p n from if_neg (by omega)]
      omega
theorem cnt_pre (p : Nat → Bool) {k : Nat} : ∀ n, k ≤ n → cnt p k ≤ cnt p n
  | 0, h => by
    obtain rfl : k = 0 := by omega
    exact Nat.le_refl _
  | n + 1, h => by
    by_cases e : k = n + 1
    · subst e
      exact Nat.le_refl _
    · have := cnt_pre p n (by omega : k ≤ n)
      simp only [cnt]
      omega

/-- The one with the greater rest comes first, of several ones the first one. -/
def better (R : Nat → Int) (j i : Nat) : Bool := decide (R i < R j) || (decide (R j = R i) && decide (j < i))
theorem better_iff {R : Nat → Int} {j i : Nat} : better R j i = true ↔ R i < R j ∨ (R j = R i ∧ j < i) := by simp [better]
def rank (R : Nat → Int) (n i : Nat) : Nat := cnt (fun j => better R j i) n
def bestTo (G : Nat → Bool) (R : Nat → Int) : Nat → Int
  | 0 => -1
  | k + 1 => if G k = false ∧ (bestTo G R k < 0 ∨ R (bestTo G R k).toNat < R k) then (k : Int) else bestTo G R k
theorem bestTo_is (G : Nat → Bool) (R : Nat → Int) : ∀ n, (bestTo G R n = -1 ∧ ∀ i, i < n → G i = true) ∨ ∃ b : Nat, bestTo G R n = (b : Int) ∧ b < n ∧ G b = false ∧ ∀ i, i < n → G i = false → i ≠ b → better R b i = true
  | 0 => .inl ⟨rfl, fun i h => by omega⟩
  | n + 1 => by
    rcases bestTo_is G R n with ⟨h1, h2⟩ | ⟨b, h1, hb, h2, h3⟩
    · cases hg : G n with
      | true =>
        refine .inl ⟨?_, fun i hi => ?_⟩
        · simp only [bestTo]
          rw [if_neg (by rw [hg]; simp), h1]
        · by_cases e : i = n
          · subst e
            exact hg
          · exact h2 i (by omega)
      | false =>
        refine .inr ⟨n, ?_, by omega, hg, fun i hi hgi hne => ?_⟩
        · simp only [bestTo]
          rw [if_pos ⟨hg, .inl (by rw [h1]; omega)⟩]
        · have := h2 i (by omega)
          rw [hgi] at this
          cases this
    · cases hg : G n with
      | true =>
        refine .inr ⟨b, ?_, by omega, h2, fun i hi hgi hne => ?_⟩
        · simp only [bestTo]
          rw [if_neg (by rw [hg]; simp), h1]
        · by_cases e : i = n
          · subst e
            rw [hg] at hgi
            cases hgi
          · exact h3 i (by omega) hgi hne
      | false =>
        by_cases hlt : R b < R n
        · refine .inr ⟨n, ?_, by omega, hg, fun i hi hgi hne => ?_⟩
          · simp only [bestTo]
            rw [if_pos ⟨hg, .inr (by rw [h1, Int.toNat_natCast]; exact hlt)⟩]
          · by_cases e : i = b
            · subst e
              exact better_iff.2 (.inl hlt)
            · have := better_iff.1 (h3 i (by omega) hgi e)
              exact better_iff.2 (.inl (by omega))
        · refine .inr ⟨b, ?_, by omega, h2, fun i hi hgi hne => ?_⟩
          · simp only [bestTo]
            rw [if_neg, h1]
            rintro ⟨_, h | h⟩
            · rw [h1] at h
              omega
            · rw [h1, Int.toNat_natCast] at h
              exact hlt h
          · by_cases e : i = n
            · subst e
              exact better_iff.2 (by omega)
            · exact h3 i (by omega) hgi hne
/-- Those that were given one are ahead of those that were not. -/
def upw (G : Nat → Bool) (R : Nat → Int) (n : Nat) : Prop := ∀ i, i < n → G i = true → ∀ j, j < n → G j = false → better R i j = true
theorem upw_none (R : Nat → Int) (n : Nat) : upw (fun _ => false) R n := fun i _ h => by cases h
theorem best_step {G : Nat → Bool} {R : Nat → Int} {n : Nat} (hu : upw G R n) (hc : cnt G n < n) : ∃ b : Nat, bestTo G R n = (b : Int) ∧ b < n ∧ G b = false ∧ upw (put1 G b) R n ∧ cnt (put1 G b) n = cnt G n + 1 := by
  rcases bestTo_is G R n with ⟨_, h2⟩ | ⟨b, h1, hb, h2, h3⟩
  · obtain ⟨i, hi, h⟩ := cnt_free n hc
    rw [h2 i hi] at h
    cases h
  · refine ⟨b, h1, hb, h2, fun i hi hgi j hj hgj => ?_, cnt_put h2 n hb⟩
    unfold put1 at hgi hgj
    by_cases e : j = b
    · rw [if_pos e] at hgj
      cases hgj
    · rw [if_neg e] at hgj
      by_cases e2 : i = b
      · subst e2
        exact h3 j hj hgj e
      · rw [if_neg e2] at hgi
        exact hu i hi hgi j hj hgj
theorem upw_end {G : Nat → Bool} {R : Nat → Int} {n L : Nat} (hu : upw G R n) (hc : cnt G n = L) (i : Nat) (hi : i < n) : G i = decide (rank R n i < L) := by
  subst hc
  cases hg : G i with
  | true =>
    refine (decide_eq_true (cnt_strict (p := fun j => better R j i) (q := G) n i (fun j hj hb => ?_) hi ?_ hg)).symm
    · cases hgj : G j with
      | true => rfl
      | false =>
        have h1 := better_iff.1 (hu i hi hg j hj hgj)
        have h2 := better_iff.1 hb
        omega
    · have : ¬ (better R i i = true) := fun h => by
        have := better_iff.1 h
        omega
      simpa using this
  | false =>
    refine (decide_eq_false ?_).symm
    have : cnt G n ≤ rank R n i := cnt_mono n fun j hj hgj => hu j hj hgj i hi hg
    omega

/-- The first n numbers of a function. -/
def lst (f : Nat → Int) (n : Nat) : List Int := (List.range n).map f
theorem lst_length (f : Nat → Int) (n : Nat) : (lst f n).length = n := by simp [lst]
theorem lst_get {f : Nat → Int} {n i : Nat} (h : i < n) : (lst f n).getD i 0 = f i := by simp [lst, List.getD, h]
theorem lst_succ (f : Nat → Int) (n : Nat) : lst f (n + 1) = lst f n ++ [f n] := by simp [lst, List.range_succ]
theorem lst_same {f g : Nat → Int} {n : Nat} (h : ∀ i, i < n → f i = g i) : lst f n = lst g n := by
  apply List.map_congr_left
  intro i hi
  exact h i (List.mem_range.1 hi)
theorem lst_set (f : Nat → Int) (n b : Nat) (v : Int) : (lst f n).set b v = lst (fun i => if i = b then v else f i) n := by
  apply List.ext_getElem?
  intro j
  rw [List.getElem?_set, lst_length]
  by_cases hj : j < n
  · by_cases e : b = j
    · subst e
      simp [lst, hj]
    · simp [lst, hj, e, show ¬ j = b from fun h => e h.symm]
  · by_cases e : b = j
    · subst e
      simp [lst, hj]
    · simp [lst, hj, e]
theorem lst_take (f : Nat → Int) {n k : Nat} (h : k ≤ n) : (lst f n).take k = lst f k := by
  rw [lst, lst, ← List.map_take, List.take_range, Nat.min_eq_left h]
theorem lst_sum (f : Nat → Int) (k : Nat) : (lst f (k + 1)).sum = (lst f k).sum + f k := by
  rw [lst_succ]
  simp
/-- Cells of bools. -/
def flags (G : Nat → Bool) (n : Nat) : List Value := (List.range n).map fun i => Value.bool (G i)
theorem flags_length (G : Nat → Bool) (n : Nat) : (flags G n).length = n := by simp [flags]
theorem flags_get {G : Nat → Bool} {n i : Nat} (h : i < n) : (flags G n)[i]? = some (.bool (G i)) := by simp [flags, h]
theorem flags_put (G : Nat → Bool) (n b : Nat) : (flags G n).set b (.bool true) = flags (put1 G b) n := by
  apply List.ext_getElem?
  intro j
  rw [List.getElem?_set, flags_length]
  by_cases hj : j < n
  · by_cases e : b = j
    · subst e
      simp [flags, hj, put1]
    · simp [flags, hj, e, put1, show ¬ j = b from fun h => e h.symm]
  · by_cases e : b = j
    · subst e
      simp [flags, hj]
    · simp [flags, hj, e]

/-- Shares, rests, what a set of given ones makes of them. -/
def shV (c : Int) (gs : List Int) (i : Nat) : Int := c * gs.getD i 0 / gs.sum
def shR (c : Int) (gs : List Int) (i : Nat) : Int := c * gs.getD i 0 % gs.sum
def shL (c : Int) (gs : List Int) : Int := c - (lst (shV c gs) gs.length).sum
def give (S : Nat → Int) (G : Nat → Bool) (i : Nat) : Int := S i + if G i = true then 1 else 0
theorem give_none (S : Nat → Int) : give S (fun _ => false) = S := by
  funext i
  simp [give]
theorem give_put {S : Nat → Int} {G : Nat → Bool} {n b : Nat} (hg : G b = false) : (lst (give S G) n).set b (S b + 1) = lst (give S (put1 G b)) n := by
  rw [lst_set]
  apply lst_same
  intro i hi
  unfold give put1
  by_cases e : i = b
  · subst e
    rw [if_pos rfl, if_pos (if_pos rfl)]
  · rw [if_neg e, if_neg e]
def shareF (c : Int) (gs : List Int) : List Int × Int :=
  if (inB c 0 1000000 && upTo gs 5000) = true then
    if 60 < gs.length then ([], 3) else if gs.sum = 0 then ([], 6) else (lst (give (shV c gs) fun i => decide ((rank (shR c gs) gs.length i : Int) < shL c gs)) gs.length, 0)
  else ([], 2)
theorem shareF_no {c : Int} {gs : List Int} (h : (inB c 0 1000000 && upTo gs 5000) = false) : shareF c gs = ([], 2) := if_neg (by rw [h]; simp)
theorem shareF_many {c : Int} {gs : List Int} (h : (inB c 0 1000000 && upTo gs 5000) = true) (h1 : 60 < gs.length) : shareF c gs = ([], 3) := by rw [shareF, if_pos h, if_pos h1]
theorem shareF_zero {c : Int} {gs : List Int} (h : (inB c 0 1000000 && upTo gs 5000) = true) (h1 : ¬ 60 < gs.length) (h2 : gs.sum = 0) : shareF c gs = ([], 6) := by rw [shareF, if_pos h, if_neg h1, if_pos h2]
theorem shareF_yes {c : Int} {gs : List Int} (h : (inB c 0 1000000 && upTo gs 5000) = true) (h1 : ¬ 60 < gs.length) (h2 : ¬ gs.sum = 0) :
    shareF c gs = (lst (give (shV c gs) fun i => decide ((rank (shR c gs) gs.length i : Int) < shL c gs)) gs.length, 0) := by rw [shareF, if_pos h, if_neg h1, if_neg h2]

theorem shareF_len {c : Int} {gs : List Int} (hn : gs.length ≤ 1048576) : (shareF c gs).1.length ≤ 2097152 := by
  unfold shareF
  split
  · split
    · simp
    · split
      · simp
      · simp only [lst_length]
        omega
  · simp
theorem upTo_wide {gs : List Int} (h : upTo gs 5000 = true) : upTo gs 1000000 = true := by
  rw [upTo, List.all_eq_true] at *
  intro z hz
  have := inB_of (h z hz)
  exact inB_mk (by omega)
theorem pre_in {gs : List Int} (h : upTo gs 5000 = true) : ∀ k, k ≤ gs.length → 0 ≤ (gs.take k).sum ∧ (gs.take k).sum ≤ 5000 * (k : Int)
  | 0, _ => by simp
  | k + 1, hk => by
    have ih := pre_in h k (by omega)
    have := upTo_get h k (by omega)
    rw [sum_step gs k (by omega)]
    omega
theorem pre_le {gs : List Int} (h : upTo gs 5000 = true) : ∀ d k, k + d = gs.length → (gs.take k).sum ≤ gs.sum
  | 0, k, e => by
    rw [show k = gs.length by omega, sum_all]
    exact Int.le_refl _
  | d + 1, k, e => by
    have ih := pre_le h d (k + 1) (by omega)
    have := upTo_get h k (by omega)
    rw [sum_step gs k (by omega)] at ih
    omega
theorem one_le {gs : List Int} (h : upTo gs 5000 = true) (k : Nat) (hk : k < gs.length) : gs.getD k 0 ≤ gs.sum := by
  have h1 := pre_le h (gs.length - (k + 1)) (k + 1) (by omega)
  have h2 := pre_in h k (by omega)
  rw [sum_step gs k hk] at h1
  omega
theorem sh_run {c A : Int} {gs : List Int} (hA : A = gs.sum) (h0 : 0 < A) : ∀ k, k ≤ gs.length → ∃ r, c * (gs.take k).sum = A * (lst (shV c gs) k).sum + r ∧ 0 ≤ r ∧ r ≤ (k : Int) * A - k
  | 0, _ => ⟨0, by simp [lst], by omega, by simp⟩
  | k + 1, hk => by
    obtain ⟨r, h1, h2, h3⟩ := sh_run hA h0 k (by omega)
    refine ⟨r + shR c gs k, ?_, ?_, ?_⟩
    · rw [sum_step gs k (by omega), lst_sum, Int.mul_add, Int.mul_add, h1]
      have e := Int.mul_ediv_add_emod (c * gs.getD k 0) A
      unfold shV shR
      rw [← hA]
      omega
    · have := Int.emod_nonneg (c * gs.getD k 0) (show A ≠ 0 by omega)
      unfold shR
      rw [← hA]
      omega
    · have := Int.emod_lt_of_pos (c * gs.getD k 0) h0
      unfold shR
      rw [← hA]
      have e : ((k + 1 : Nat) : Int) * A = (k : Int) * A + A := by
        rw [Int.natCast_add, Int.add_mul]
        simp
      rw [e]
      omega
theorem shV_in {c : Int} {gs : List Int} (hc : inB c 0 1000000 = true) (h : upTo gs 5000 = true) (h0 : ¬ gs.sum = 0) (k : Nat) (hk : k < gs.length) :
    (0 ≤ gs.getD k 0 ∧ gs.getD k 0 ≤ 5000) ∧ (0 ≤ c * gs.getD k 0 ∧ c * gs.getD k 0 ≤ 5000000000) ∧ (0 ≤ shV c gs k ∧ shV c gs k ≤ 1000000) ∧ (0 ≤ shR c gs k ∧ shR c gs k < gs.sum) ∧ (c * gs.getD k 0).tdiv gs.sum = shV c gs k ∧ (c * gs.getD k 0).tmod gs.sum = shR c gs k := by
  have hc' := inB_of hc
  have hg := upTo_get h k hk
  have hA : 0 < gs.sum := by
    have := pre_in h gs.length (Nat.le_refl _)
    rw [sum_all] at this
    omega
  have hle := one_le h k hk
  have p0 : 0 ≤ c * gs.getD k 0 := Int.mul_nonneg hc'.1 hg.1
  have p1 : c * gs.getD k 0 ≤ 1000000 * gs.getD k 0 := Int.mul_le_mul_of_nonneg_right hc'.2 hg.1
  have p2 : c * gs.getD k 0 ≤ c * gs.sum := Int.mul_le_mul_of_nonneg_left hle hc'.1
  refine ⟨hg, ⟨p0, by omega⟩, ⟨Int.ediv_nonneg p0 (by omega), ?_⟩, ⟨Int.emod_nonneg _ (by omega), Int.emod_lt_of_pos _ hA⟩, Int.tdiv_eq_ediv_of_nonneg p0, Int.tmod_eq_emod_of_nonneg p0⟩
  have : shV c gs k ≤ c := by
    unfold shV
    have h1 : c * gs.getD k 0 / gs.sum ≤ c * gs.sum / gs.sum := Int.ediv_le_ediv hA p2
    rwa [Int.mul_ediv_cancel _ (by omega)] at h1
  omega
theorem shD_in {c : Int} {gs : List Int} (hc : inB c 0 1000000 = true) (h : upTo gs 5000 = true) (h0 : ¬ gs.sum = 0) : ∀ k, k ≤ gs.length → 0 ≤ (lst (shV c gs) k).sum ∧ (lst (shV c gs) k).sum ≤ 1000000 * (k : Int)
  | 0, _ => by simp [lst]
  | k + 1, hk => by
    have ih := shD_in hc h h0 k (by omega)
    have := (shV_in hc h h0 k (by omega)).2.2.1
    rw [lst_sum]
    omega
theorem shL_in {c : Int} {gs : List Int} (h : upTo gs 5000 = true) (h0 : ¬ gs.sum = 0) : 0 ≤ shL c gs ∧ shL c gs < gs.length := by
  have hA : 0 < gs.sum := by
    have := pre_in h gs.length (Nat.le_refl _)
    rw [sum_all] at this
    omega
  obtain ⟨r, h1, h2, h3⟩ := sh_run (c := c) rfl hA gs.length (Nat.le_refl _)
  rw [sum_all, Int.mul_comm c] at h1
  have hn : 0 < gs.length := by
    rcases Nat.eq_zero_or_pos gs.length with e | e
    · rw [List.length_eq_zero_iff.1 e] at h0
      simp at h0
    · exact e
  have e : gs.sum * shL c gs = r := by
    unfold shL
    rw [Int.mul_sub]
    omega
  constructor
  · by_cases hneg : shL c gs < 0
    · have : gs.sum * shL c gs < 0 := Int.mul_neg_of_pos_of_neg hA hneg
      omega
    · omega
  · by_cases hge : (gs.length : Int) ≤ shL c gs
    · have : gs.sum * (gs.length : Int) ≤ gs.sum * shL c gs := Int.mul_le_mul_of_nonneg_left hge (by omega)
      rw [Int.mul_comm gs.sum (gs.length : Int)] at this
      omega
    · omega
end Go.Proofs.Ytklgklkfolbjcaa
