/-
  No statement is proved here: what stitches take, make and need, and which rows can be knitted: the document's numbers; no condition.
-/
import Derived.Test.YtcgcaghmpegehaaDoorStr
import Derived.Test.YtcgcaghmpegehaaDoorIn
namespace Go.Proofs.YtcgcaghmpegehaaDoor
open Go.ChangeShapes Go.WideShapes Go.ChangeAt Go.RowKit

/-- The k-th byte of a text. -/
def chAt (s : ByteArray) (k : Nat) : Nat := (s.data.toList.getD k 0).toNat
theorem chAt_le (s : ByteArray) (k : Nat) : chAt s k ≤ 255 := by
  have := UInt8.toNat_lt (s.data.toList.getD k 0)
  unfold chAt
  omega
theorem chAt_idx (s : ByteArray) (k : Nat) (hk : k < s.size) (wx : World) : (Instr.index 9 (.string s) (.int .i64 (k : Int))).run Tryd.prog wx = .ok (.int .u8 (chAt s k : Nat)) wx := by
  rw [run_index_string (P := Tryd.prog) wx _ s .i64 k Tryd.underlying9, dif_pos ⟨by omega, by omega⟩]
  have h : k < s.data.toList.length := by simpa using hk
  rw [chAt, List.getD, List.getElem?_eq_getElem h]
  rfl
theorem chAt_get (s : ByteArray) (k : Nat) (hk : k < s.size) : (s[k]'hk).toNat = chAt s k := by
  have h : k < s.data.toList.length := by simpa using hk
  rw [chAt, List.getD, List.getElem?_eq_getElem h]
  rfl

/-- What a letter takes, makes, and how many times gauge it needs; whether it is a stitch. -/
def tk (b : Nat) : Int := if b = 107 then 1 else if b = 105 then 1 else if b = 98 then 1 else if b = 100 then 2 else if b = 111 then 0 else -1
def mk (b : Nat) : Int := if b = 105 then 2 else if b = 98 then 0 else 1
def nd (b : Nat) : Int := if b = 107 then 3 else if b = 100 then 4 else if b = 111 then 4 else if b = 98 then 5 else if b = 105 then 6 else 0
def isSt (b : Nat) : Bool := decide (b = 107 ∨ b = 105 ∨ b = 98 ∨ b = 100 ∨ b = 111)
theorem st_cases (b : Nat) : (b = 107 ∨ b = 105 ∨ b = 98 ∨ b = 100 ∨ b = 111) ∨ (b ≠ 107 ∧ b ≠ 105 ∧ b ≠ 98 ∧ b ≠ 100 ∧ b ≠ 111) := by omega
theorem isSt_cases {b : Nat} (h : isSt b = true) : b = 107 ∨ b = 105 ∨ b = 98 ∨ b = 100 ∨ b = 111 := of_decide_eq_true h
theorem isSt_no {b : Nat} (h : isSt b = false) : b ≠ 107 ∧ b ≠ 105 ∧ b ≠ 98 ∧ b ≠ 100 ∧ b ≠ 111 := by
  have := of_decide_eq_false h
  omega
theorem tk_no {b : Nat} (h : isSt b = false) : tk b = -1 := by
  obtain ⟨h1, h2, h3, h4, h5⟩ := isSt_no h
  simp [tk, *]
theorem tk_bd {b : Nat} (h : isSt b = true) : 0 ≤ tk b ∧ tk b ≤ 2 := by
  rcases isSt_cases h with rfl | rfl | rfl | rfl | rfl <;> decide
theorem mk_bd (b : Nat) : 0 ≤ mk b ∧ mk b ≤ 2 := by
  unfold mk
  split
  · omega
  · split <;> omega
theorem nd_bd (b : Nat) : 0 ≤ nd b ∧ nd b ≤ 6 := by
  unfold nd
  repeat' split
  all_goals omega
theorem st_one {b : Nat} (h : isSt b = true) : 1 ≤ tk b + mk b := by
  rcases isSt_cases h with rfl | rfl | rfl | rfl | rfl <;> decide

/-- The sum over the first k letters. -/
def sumB (f : Nat → Int) (s : ByteArray) : Nat → Int
  | 0 => 0
  | k + 1 => sumB f s k + f (chAt s k)
/-- All of the first n are so. -/
def allK (R : Nat → Bool) : Nat → Bool
  | 0 => true
  | m + 1 => allK R m && R m
theorem allK_all {R : Nat → Bool} : ∀ {m : Nat}, (∀ j, j < m → R j = true) → allK R m = true
  | 0, _ => rfl
  | m + 1, h => by rw [allK, allK_all fun j hj => h j (by omega), h m (by omega)]; rfl
theorem allK_no {R : Nat → Bool} : ∀ {m k : Nat}, k < m → R k = false → allK R m = false
  | m + 1, k, h, hr => by
    rw [allK]
    by_cases hk : k = m
    · subst hk; rw [hr]; simp
    · rw [allK_no (show k < m by omega) hr]; rfl
theorem allK_get {R : Nat → Bool} {m : Nat} (h : allK R m = true) {j : Nat} (hj : j < m) : R j = true := by
  cases e : R j with
  | true => rfl
  | false => rw [allK_no hj e] at h; exact h
/-- The first of n that is not so, -1 if there is none. -/
def firstNo (R : Nat → Bool) : Nat → Int
  | 0 => -1
  | m + 1 => if firstNo R m = -1 then (if R m = true then -1 else m) else firstNo R m
theorem firstNo_all {R : Nat → Bool} : ∀ {m : Nat}, (∀ j, j < m → R j = true) → firstNo R m = -1
  | 0, _ => rfl
  | m + 1, h => by rw [firstNo, firstNo_all fun j hj => h j (by omega), h m (by omega)]; rfl
theorem firstNo_at {R : Nat → Bool} : ∀ {m k : Nat}, k < m → (∀ j, j < k → R j = true) → R k = false → firstNo R m = k
  | m + 1, k, h, ha, hr => by
    rw [firstNo]
    by_cases hk : k = m
    · subst hk
      rw [firstNo_all ha, hr]
      simp
    · rw [firstNo_at (show k < m by omega) ha hr, if_neg (by omega)]
theorem firstNo_cases (R : Nat → Bool) : ∀ m : Nat, (firstNo R m = -1 ∧ ∀ j, j < m → R j = true) ∨ ∃ k, k < m ∧ firstNo R m = (k : Int) ∧ (∀ j, j < k → R j = true) ∧ R k = false
  | 0 => .inl ⟨rfl, fun j hj => absurd hj (Nat.not_lt_zero j)⟩
  | m + 1 => by
    rcases firstNo_cases R m with ⟨h1, h2⟩ | ⟨k, h0, h1, h2, h3⟩
    · cases hr : R m with
      | true =>
        have ha : ∀ j, j < m + 1 → R j = true := fun j hj => by
          by_cases e : j = m
          · rw [e]; exact hr
          · exact h2 j (by omega)
        exact .inl ⟨firstNo_all ha, ha⟩
      | false => exact .inr ⟨m, by omega, firstNo_at (by omega) h2 hr, h2, hr⟩
    · exact .inr ⟨k, by omega, firstNo_at (by omega) h2 h3, h2, h3⟩

/-- Whether all letters of a row are stitches; how many loops it takes and makes; what it needs. -/
def allSt (s : ByteArray) : Bool := allK (fun j => isSt (chAt s j)) s.size
def takesF (s : ByteArray) : Int := sumB tk s s.size
def makesF (s : ByteArray) : Int := sumB mk s s.size
def needsF (s : ByteArray) : Int := sumB nd s s.size
theorem sum_bd {f : Nat → Int} {s : ByteArray} {hi : Int} : ∀ {k : Nat}, (∀ j, j < k → 0 ≤ f (chAt s j) ∧ f (chAt s j) ≤ hi) → 0 ≤ sumB f s k ∧ sumB f s k ≤ hi * k
  | 0, _ => by simp [sumB]
  | k + 1, h => by
    have ih := sum_bd (k := k) fun j hj => h j (by omega)
    have h1 := h k (by omega)
    rw [sumB]
    have : hi * ((k + 1 : Nat) : Int) = hi * k + hi := by rw [Int.natCast_add, Int.mul_add]; simp
    omega
theorem takes_bd {s : ByteArray} {k : Nat} (h : ∀ j, j < k → isSt (chAt s j) = true) : 0 ≤ sumB tk s k ∧ sumB tk s k ≤ 2 * k := sum_bd fun j hj => tk_bd (h j hj)
theorem makes_bd (s : ByteArray) (k : Nat) : 0 ≤ sumB mk s k ∧ sumB mk s k ≤ 2 * k := sum_bd fun _ _ => mk_bd _
theorem needs_bd (s : ByteArray) (k : Nat) : 0 ≤ sumB nd s k ∧ sumB nd s k ≤ 6 * k := sum_bd fun _ _ => nd_bd _
theorem size_le {s : ByteArray} : ∀ {k : Nat}, (∀ j, j < k → isSt (chAt s j) = true) → (k : Int) ≤ sumB tk s k + sumB mk s k
  | 0, _ => by simp [sumB]
  | k + 1, h => by
    have ih := size_le (k := k) fun j hj => h j (by omega)
    have h1 := st_one (h k (by omega))
    rw [sumB, sumB]
    omega

/-- A row by its place; how many loops there are behind so many rows; whether a row can be knitted there. -/
def rowAt (L : List ByteArray) (k : Nat) : ByteArray := L.getD k ByteArray.empty
def wd (c : Int) (L : List ByteArray) : Nat → Int
  | 0 => c
  | k + 1 => makesF (rowAt L k)
def canB (n : Nat) (wide : Int) (s : ByteArray) : Bool := allSt s && decide (wide ≠ 0) && decide (takesF s = wide) && decide (makesF s ≤ 60) && decide (n < 30)
def fine (c : Int) (L : List ByteArray) (k : Nat) : Bool := canB k (wd c L k) (rowAt L k)
def badF (c : Int) (L : List ByteArray) : Int := firstNo (fine c L) L.length
def okF (c : Int) (L : List ByteArray) : Bool := inB c 1 60 && decide (badF c L < 0)
theorem canB_parts {n : Nat} {wide : Int} {s : ByteArray} (h : canB n wide s = true) : allSt s = true ∧ wide ≠ 0 ∧ takesF s = wide ∧ makesF s ≤ 60 ∧ n < 30 := by
  unfold canB at h
  simp only [Bool.and_eq_true, decide_eq_true_eq] at h
  exact ⟨h.1.1.1.1, h.1.1.1.2, h.1.1.2, h.1.2, h.2⟩
theorem canB_mk {n : Nat} {wide : Int} {s : ByteArray} (h : allSt s = true ∧ wide ≠ 0 ∧ takesF s = wide ∧ makesF s ≤ 60 ∧ n < 30) : canB n wide s = true := by
  obtain ⟨h1, h2, h3, h4, h5⟩ := h
  simp [canB, h1, h2, h3, h4, h5]
theorem canB_no {n : Nat} {wide : Int} {s : ByteArray} (h : allSt s = false ∨ wide = 0 ∨ takesF s ≠ wide ∨ 60 < makesF s ∨ 30 ≤ n) : canB n wide s = false := by
  cases e : canB n wide s with
  | false => rfl
  | true =>
    obtain ⟨h1, h2, h3, h4, h5⟩ := canB_parts e
    rcases h with h | h | h | h | h
    · rw [h1] at h; exact h
    all_goals (exfalso; omega)
theorem okF_parts {c : Int} {L : List ByteArray} (h : okF c L = true) : (1 ≤ c ∧ c ≤ 60) ∧ ∀ j, j < L.length → fine c L j = true := by
  unfold okF at h
  simp only [Bool.and_eq_true, decide_eq_true_eq] at h
  refine ⟨inB_of h.1, ?_⟩
  rcases firstNo_cases (fine c L) L.length with ⟨_, h2⟩ | ⟨k, _, h1, _⟩
  · exact h2
  · have := h.2
    unfold badF at this
    omega
theorem okF_mk {c : Int} {L : List ByteArray} (h1 : inB c 1 60 = true) (h2 : ∀ j, j < L.length → fine c L j = true) : okF c L = true := by
  unfold okF badF
  rw [firstNo_all h2, h1]
  rfl
theorem okF_cast {c : Int} {L : List ByteArray} (h : inB c 1 60 = false) : okF c L = false := by
  unfold okF
  rw [h]
  rfl
theorem okF_bad {c : Int} {L : List ByteArray} {k : Nat} (hk : k < L.length) (ha : ∀ j, j < k → fine c L j = true) (hr : fine c L k = false) : okF c L = false ∧ badF c L = k := by
  have e : badF c L = k := firstNo_at hk ha hr
  refine ⟨?_, e⟩
  unfold okF
  rw [e]
  simp
theorem fine_len {c : Int} {L : List ByteArray} (h : ∀ j, j < L.length → fine c L j = true) : L.length ≤ 30 := by
  by_cases h0 : L.length = 0
  · omega
  · have := (canB_parts (h (L.length - 1) (by omega))).2.2.2.2
    omega
theorem wd_bd {c : Int} {L : List ByteArray} (hc : 1 ≤ c ∧ c ≤ 60) {k : Nat} (h : ∀ j, j < k → fine c L j = true) : 0 ≤ wd c L k ∧ wd c L k ≤ 60 := by
  cases k with
  | zero => exact ⟨show 0 ≤ c by omega, show c ≤ 60 by omega⟩
  | succ k =>
    have h1 := (canB_parts (h k (by omega))).2.2.2.1
    have h2 := makes_bd (rowAt L k) (rowAt L k).size
    exact ⟨h2.1, h1⟩
theorem row_size {c : Int} {L : List ByteArray} (hc : 1 ≤ c ∧ c ≤ 60) {k : Nat} (h : ∀ j, j < k + 1 → fine c L j = true) : (rowAt L k).size ≤ 120 := by
  obtain ⟨h1, h2, h3, h4, h5⟩ := canB_parts (h k (by omega))
  have h6 := wd_bd hc (k := k) fun j hj => h j (by omega)
  have h7 := size_le (s := rowAt L k) (k := (rowAt L k).size) fun j hj => allK_get h1 hj
  unfold takesF at h3
  unfold makesF at h4
  omega
end Go.Proofs.YtcgcaghmpegehaaDoor
