/-
  No statement is proved here: orders served from the first lot, or from that with the least left, and how indices are put in order, as numbers; no condition.
-/
import Derived.Test.YtapimmlhcbjgoaaLfM
namespace Go.Proofs.Ytapimmlhcbjgoaa
open Go.RowKit

/-- The order of indices by a key; of those with the same key the first one comes first. -/
def lx (K : Nat → Int) (a b : Nat) : Prop := K a < K b ∨ (K a = K b ∧ a < b)
theorem lx_le {K : Nat → Int} {a b : Nat} (h : lx K a b) : K a ≤ K b := by
  rcases h with h | ⟨h, _⟩ <;> omega
def Srt (K : Nat → Int) (P : List Nat) (n : Nat) : Prop := P.Pairwise (lx K) ∧ P.length = n ∧ ∀ x, x ∈ P ↔ x < n
theorem srt_one (K : Nat → Int) : Srt K [0] 1 := ⟨List.pairwise_singleton _ _, rfl, fun x => by simp⟩
theorem srt_nil (K : Nat → Int) : Srt K [] 0 := ⟨List.Pairwise.nil, rfl, fun x => by simp⟩
theorem srt_ins {K : Nat → Int} {A D : List Nat} {n : Nat} (h : Srt K (A ++ D) n) (hA : ∀ x ∈ A, K x ≤ K n) (hD : ∀ x ∈ D, K n < K x) : Srt K (A ++ n :: D) (n + 1) := by
  obtain ⟨hp, hl, hm⟩ := h
  rw [List.pairwise_append] at hp
  obtain ⟨h1, h2, h3⟩ := hp
  have lA : ∀ x ∈ A, x < n := fun x hx => (hm x).1 (List.mem_append.2 (.inl hx))
  have lD : ∀ x ∈ D, x < n := fun x hx => (hm x).1 (List.mem_append.2 (.inr hx))
  refine ⟨?_, by simp at hl ⊢; omega, fun x => ?_⟩
  · rw [List.pairwise_append]
    refine ⟨h1, List.pairwise_cons.2 ⟨fun y hy => .inl (hD y hy), h2⟩, fun a ha b hb => ?_⟩
    rcases List.mem_cons.1 hb with rfl | hb
    · have := hA a ha
      have := lA a ha
      rcases Int.lt_or_eq_of_le (hA a ha) with h | h
      · exact .inl h
      · exact .inr ⟨h, this⟩
    · exact h3 a ha b hb
  · have := hm x
    rw [List.mem_append] at this ⊢
    rw [List.mem_cons]
    constructor
    · rintro (h | h | h)
      · have := lA x h; omega
      · omega
      · have := lD x h; omega
    · intro h
      by_cases e : x = n
      · exact .inr (.inl e)
      · rcases this.2 (by omega) with h | h
        · exact .inl h
        · exact .inr (.inr h)
theorem srt_front {K : Nat → Int} {D : List Nat} {n : Nat} (h : Srt K D n) (hD : ∀ x ∈ D, K n < K x) : Srt K (n :: D) (n + 1) := srt_ins (A := []) h (fun _ hx => absurd hx List.not_mem_nil) hD
theorem srt_end {K : Nat → Int} {A D : List Nat} {x n : Nat} (h : Srt K ((A ++ [x]) ++ D) n) (hx : K x ≤ K n) (hD : ∀ y ∈ D, K n < K y) : Srt K ((A ++ [x]) ++ n :: D) (n + 1) := by
  refine srt_ins h (fun y hy => ?_) hD
  have hp := (List.pairwise_append.1 h.1).1
  rcases List.mem_append.1 hy with hy | hy
  · have := lx_le ((List.pairwise_append.1 hp).2.2 y hy x (by simp))
    omega
  · rw [List.mem_singleton.1 hy]
    exact hx
/-- The numbers of a list of indices. -/
def nm (P : List Nat) : List Int := P.map fun (x : Nat) => (x : Int)
theorem nm_length (P : List Nat) : (nm P).length = P.length := by simp [nm]
theorem nm_get (P : List Nat) (j : Nat) : (nm P).getD j 0 = ((P.getD j 0 : Nat) : Int) := by
  unfold nm
  by_cases h : j < P.length
  · simp [List.getD, List.getElem?_eq_getElem h]
  · simp [List.getD, List.getElem?_eq_none (Nat.le_of_not_lt h)]
theorem get_mid (A T : List Nat) (x : Nat) : (A ++ x :: T).getD A.length 0 = x := by simp [List.getD]
theorem get_two (A T : List Nat) (x y : Nat) : (A ++ x :: y :: T).getD (A.length + 1) 0 = y := by simp [List.getD]
theorem swp_two (A T : List Nat) (x y : Nat) : ((nm (A ++ x :: y :: T)).set (A.length + 1) (x : Int)).set A.length (y : Int) = nm (A ++ y :: x :: T) := by
  unfold nm
  induction A with
  | nil => rfl
  | cons a A ih => simp
/-- What is not yet in order. -/
def idr (a N : Nat) : List Nat := List.range' a (N - a)
theorem idr_step {a N : Nat} (h : a < N) : idr a N = a :: idr (a + 1) N := by
  unfold idr
  rw [show N - a = (N - (a + 1)) + 1 by omega, List.range'_succ]
theorem idr_none {a N : Nat} (h : N ≤ a) : idr a N = [] := by
  unfold idr
  rw [show N - a = 0 by omega]
  rfl
theorem idr_length (a N : Nat) : (idr a N).length = N - a := by simp [idr]
theorem srt_lt {K : Nat → Int} {P : List Nat} {n : Nat} (h : Srt K P n) (j : Nat) (hj : j < n) : P.getD j 0 < n := by
  have hl : j < P.length := by rw [h.2.1]; exact hj
  rw [List.getD, List.getElem?_eq_getElem hl]
  exact (h.2.2 _).1 (List.getElem_mem hl)

/-- The lot that serves an order: that with the least key of those that can, or -1. -/
def keyF (b : Bool) (T : List Lt) (k : Nat) : Int := if b = true then (atLt T k).2 else 0
def atTo (b : Bool) (T : List Lt) (o : Od) : Nat → Int
  | 0 => -1
  | k + 1 => if canB (atLt T k) o = true ∧ (atTo b T o k < 0 ∨ keyF b T k < keyF b T (atTo b T o k).toNat) then (k : Int) else atTo b T o k
theorem atTo_is (b : Bool) (T : List Lt) (o : Od) : ∀ n, (atTo b T o n = -1 ∧ ∀ i, i < n → canB (atLt T i) o = false) ∨
    ∃ q : Nat, atTo b T o n = (q : Int) ∧ q < n ∧ canB (atLt T q) o = true ∧ ∀ i, i < n → canB (atLt T i) o = true → i ≠ q → lx (keyF b T) q i
  | 0 => .inl ⟨rfl, fun i hi => absurd hi (Nat.not_lt_zero i)⟩
  | n + 1 => by
    rcases atTo_is b T o n with ⟨e, h⟩ | ⟨q, e, hq, hc, h⟩
    · by_cases c : canB (atLt T n) o = true
      · refine .inr ⟨n, ?_, by omega, c, fun i hi hci hne => ?_⟩
        · rw [atTo, if_pos ⟨c, .inl (by omega)⟩]
        · rw [h i (by omega)] at hci
          cases hci
      · refine .inl ⟨?_, fun i hi => ?_⟩
        · rw [atTo, if_neg (fun x => c x.1), e]
        · by_cases ei : i = n
          · rw [ei]; simpa using c
          · exact h i (by omega)
    · by_cases c : canB (atLt T n) o = true ∧ keyF b T n < keyF b T q
      · refine .inr ⟨n, ?_, by omega, c.1, fun i hi hci hne => ?_⟩
        · rw [atTo, if_pos ⟨c.1, .inr (by rw [e]; exact c.2)⟩]
        · by_cases ei : i = q
          · rw [ei]; exact .inl c.2
          · have := lx_le (h i (by omega) hci ei)
            exact .inl (by omega)
      · refine .inr ⟨q, ?_, by omega, hc, fun i hi hci hne => ?_⟩
        · rw [atTo, if_neg, e]
          rintro ⟨c1, c2⟩
          rcases c2 with c2 | c2
          · omega
          · rw [e] at c2
            exact c ⟨c1, c2⟩
        · by_cases ei : i = n
          · subst ei
            have : ¬ keyF b T i < keyF b T q := fun x => c ⟨hci, x⟩
            by_cases ek : keyF b T q = keyF b T i
            · exact .inr ⟨ek, hq⟩
            · exact .inl (by omega)
          · exact h i (by omega) hci hne
theorem atTo_none {b : Bool} {T : List Lt} {o : Od} {n : Nat} (h : ∀ i, i < n → canB (atLt T i) o = false) : atTo b T o n = -1 := by
  rcases atTo_is b T o n with ⟨e, _⟩ | ⟨q, _, hq, hc, _⟩
  · exact e
  · rw [h q hq] at hc
    cases hc
/-- The first index in order that can serve. -/
theorem atTo_first {b : Bool} {T : List Lt} {o : Od} {n k : Nat} {P : List Nat} (hP : Srt (keyF b T) P n) (hk : k < n) (hc : canB (atLt T (P.getD k 0)) o = true) (hno : ∀ j, j < k → canB (atLt T (P.getD j 0)) o = false) :
    atTo b T o n = ((P.getD k 0 : Nat) : Int) := by
  have hl : k < P.length := by rw [hP.2.1]; exact hk
  have hlt := srt_lt hP k hk
  have hmin : ∀ i, i < n → canB (atLt T i) o = true → i ≠ P.getD k 0 → lx (keyF b T) (P.getD k 0) i := fun i hi hci hne => by
    obtain ⟨m, hm, rfl⟩ := List.mem_iff_getElem.1 ((hP.2.2 i).2 hi)
    have em : P.getD m 0 = P[m] := by rw [List.getD, List.getElem?_eq_getElem hm]; rfl
    have ek : P.getD k 0 = P[k] := by rw [List.getD, List.getElem?_eq_getElem hl]; rfl
    rcases Nat.lt_trichotomy m k with h | h | h
    · have := hno m h
      rw [em, hci] at this
      cases this
    · subst h
      exact absurd ek.symm hne
    · rw [ek]
      exact List.pairwise_iff_getElem.1 hP.1 k m hl hm h
  rcases atTo_is b T o n with ⟨_, h⟩ | ⟨q, e, hq, hcq, h⟩
  · rw [h _ hlt] at hc
    cases hc
  · by_cases hqe : q = P.getD k 0
    · rw [e, hqe]
    · have a1 := hmin q hq hcq hqe
      have a2 := h _ hlt hc (fun x => hqe x.symm)
      rcases a1 with a1 | ⟨a1, a1'⟩ <;> rcases a2 with a2 | ⟨a2, a2'⟩ <;> omega
/-- The lots behind some orders, and the lots' indices. -/
def fitTo (b : Bool) (T : List Lt) (os : List Od) : Nat → List Lt
  | 0 => T
  | k + 1 => (stepT (fitTo b T os k) (atTo b (fitTo b T os k) (atOd os k) T.length) (atOd os k)).getD (fitTo b T os k)
def ansAt (b : Bool) (T : List Lt) (os : List Od) (k : Nat) : Int := atTo b (fitTo b T os k) (atOd os k) T.length
def ansTo (b : Bool) (T : List Lt) (os : List Od) (k : Nat) : List Int := (List.range k).map (ansAt b T os)
theorem ansTo_length (b : Bool) (T : List Lt) (os : List Od) (k : Nat) : (ansTo b T os k).length = k := by simp [ansTo]
theorem ansTo_succ (b : Bool) (T : List Lt) (os : List Od) (k : Nat) : ansTo b T os (k + 1) = ansTo b T os k ++ [ansAt b T os k] := by simp [ansTo, List.range_succ]
theorem ansTo_get (b : Bool) (T : List Lt) (os : List Od) {N k : Nat} (h : k < N) : (ansTo b T os N).getD k 0 = ansAt b T os k := by simp [ansTo, List.getD, h]
theorem fitTo_none {b : Bool} {T : List Lt} {os : List Od} {k : Nat} (h : ansAt b T os k = -1) : fitTo b T os (k + 1) = fitTo b T os k := by
  unfold ansAt at h
  rw [fitTo, h, stepT_skip]
  rfl
theorem fitTo_some {b : Bool} {T : List Lt} {os : List Od} {k q : Nat} (h : ansAt b T os k = (q : Int)) (hq : q < (fitTo b T os k).length) (hc : canB (atLt (fitTo b T os k) q) (atOd os k) = true) :
    fitTo b T os (k + 1) = (fitTo b T os k).set q ((atLt (fitTo b T os k) q).1, (atLt (fitTo b T os k) q).2 - (atOd os k).2) := by
  unfold ansAt at h
  rw [fitTo, h, stepT_yes hq hc]
  rfl
theorem fit_kept {b : Bool} {T : List Lt} {os : List Od} (h : allLt T = true) (ho : ∀ k, k < os.length → 1 ≤ (atOd os k).2) : ∀ k, k ≤ os.length → Kept T (fitTo b T os k)
  | 0, _ => kept_start h
  | k + 1, hk => by
    have ih := fit_kept (b := b) h ho k (by omega)
    cases e : stepT (fitTo b T os k) (atTo b (fitTo b T os k) (atOd os k) T.length) (atOd os k) with
    | none => rw [fitTo, e]; exact ih
    | some V => rw [fitTo, e]; exact kept_step ih (ho k (by omega)) e
def fitF (b : Bool) (T : List Lt) (os : List Od) : List Int × Int := if isLts T = true ∧ isOds os = true then (ansTo b T os os.length, 0) else ([], 1)
theorem fitF_yes {b : Bool} {T : List Lt} {os : List Od} (h1 : isLts T = true) (h2 : isOds os = true) : fitF b T os = (ansTo b T os os.length, 0) := if_pos ⟨h1, h2⟩
theorem fitF_no1 {b : Bool} {T : List Lt} {os : List Od} (h1 : isLts T = false) : fitF b T os = ([], 1) := if_neg (by rw [h1]; simp)
theorem fitF_no2 {b : Bool} {T : List Lt} {os : List Od} (h1 : isOds os = false) : fitF b T os = ([], 1) := if_neg (by rw [h1]; simp)
theorem fitF_len {b : Bool} {T : List Lt} {os : List Od} (hn : os.length ≤ 1048576) : (fitF b T os).1.length ≤ 2097152 := by
  unfold fitF
  split
  · rw [ansTo_length]; omega
  · simp
end Go.Proofs.Ytapimmlhcbjgoaa
