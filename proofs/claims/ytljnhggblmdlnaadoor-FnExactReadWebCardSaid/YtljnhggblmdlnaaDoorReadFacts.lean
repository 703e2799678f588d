/-
  No statement is proved here: texts split at blanks, and numbers as they are written: plain facts on lists of bytes.
-/
import Derived.Lib.Split
import Derived.Lib.SplitLaws
import Derived.Lib.CountLaws
import Derived.Lib.IndexBytes
import Derived.Lib.Join
import Derived.Lib.ItoaNum
import Derived.Lib.ParseIntBTie
namespace Go.Proofs.YtljnhggblmdlnaaDoor
open Go

/-- The pieces between blanks. -/
def sp : List UInt8 → List (List UInt8)
  | [] => [[]]
  | c :: cs => if c = 32 then [] :: sp cs else (c :: (sp cs).headD []) :: (sp cs).tail
theorem sp_ne : ∀ l, sp l ≠ []
  | [] => by simp [sp]
  | c :: cs => by
    rw [sp]
    split <;> simp
theorem sp_cons (l : List UInt8) : ∃ w ws, sp l = w :: ws := by
  cases h : sp l with
  | nil => exact absurd h (sp_ne l)
  | cons w ws => exact ⟨w, ws, rfl⟩
theorem sp_blank : ∀ (a b : List UInt8), (32 : UInt8) ∉ a → sp (a ++ 32 :: b) = a :: sp b
  | [], b, _ => by simp [sp]
  | c :: a, b, h => by
    have hc : c ≠ 32 := fun e => h (by simp [e])
    have ih := sp_blank a b (fun e => h (List.mem_cons_of_mem _ e))
    rw [List.cons_append, sp, if_neg hc, ih]
    rfl
theorem sp_one : ∀ (a : List UInt8), (32 : UInt8) ∉ a → sp a = [a]
  | [], _ => rfl
  | c :: a, h => by
    have hc : c ≠ 32 := fun e => h (by simp [e])
    have ih := sp_one a (fun e => h (List.mem_cons_of_mem _ e))
    rw [sp, if_neg hc, ih]
    rfl
theorem ib_cases : ∀ l : List UInt8, (Lib.indexByte l 32 = -1 ∧ (32 : UInt8) ∉ l) ∨ ∃ a b, l = a ++ 32 :: b ∧ (32 : UInt8) ∉ a ∧ Lib.indexByte l 32 = (a.length : Int)
  | [] => .inl ⟨rfl, by simp⟩
  | c :: l => by
    by_cases hc : c = 32
    · subst hc
      exact .inr ⟨[], l, rfl, by simp, by simp [Lib.indexByte]⟩
    · rcases ib_cases l with ⟨h1, h2⟩ | ⟨a, b, rfl, h2, h3⟩
      · refine .inl ⟨?_, ?_⟩
        · simp [Lib.indexByte, hc, h1]
        · simp only [List.mem_cons, not_or]
          exact ⟨fun e => hc e.symm, h2⟩
      · refine .inr ⟨c :: a, b, rfl, ?_, ?_⟩
        · simp only [List.mem_cons, not_or]
          exact ⟨fun e => hc e.symm, h2⟩
        · have hn : ¬ ((a.length : Int) = -1) := by omega
          simp [Lib.indexByte, hc, h3, hn]
theorem splitK_sp : ∀ (k : Nat) (l : List UInt8), l.count 32 ≤ k → Lib.splitK [32] 0 k l = sp l
  | 0, l, h => by
    have h0 : (32 : UInt8) ∉ l := List.count_eq_zero.1 (by omega)
    rw [sp_one l h0]
    rfl
  | k + 1, l, h => by
    rw [Lib.splitK, Lib.index_one]
    rcases ib_cases l with ⟨h1, h2⟩ | ⟨a, b, rfl, h2, h3⟩
    · rw [h1, if_pos (by decide), sp_one l h2]
    · have hn : ¬ (((a.length : Int) == -1) = true) := by rw [beq_iff_eq]; omega
      have hd : (a ++ 32 :: b).drop (a.length + 1) = b := by
        rw [List.drop_append]
        simp
      have hcount : b.count 32 ≤ k := by
        rw [List.count_append, List.count_cons] at h
        simp at h
        omega
      rw [h3, if_neg hn, sp_blank a b h2]
      have e1 : ((a.length : Int)).toNat + 0 = a.length := by omega
      have e2 : ((a.length : Int)).toNat + ([32] : List UInt8).length = a.length + 1 := by simp
      rw [e1, e2, hd, splitK_sp k b hcount]
      simp

theorem split_words (s : ByteArray) : (Lib.splitB ⟨#[32]⟩ 0 (Lib.countB s ⟨#[32]⟩) s).map (·.data.toList) = sp s.data.toList := by
  rw [Lib.splitB_data]
  exact splitK_sp _ _ (by show _ ≤ Lib.count s.data.toList [32]; rw [Lib.count_one]; exact Nat.le_refl _)
theorem split_len (s : ByteArray) : (Lib.splitB ⟨#[32]⟩ 0 (Lib.countB s ⟨#[32]⟩) s).length = Lib.countB s ⟨#[32]⟩ + 1 := Lib.splitB_all _ (by decide) 0 _ s rfl
theorem join_two (w v : List UInt8) (ws : List (List UInt8)) : Lib.join (w :: v :: ws) [32] = w ++ 32 :: Lib.join (v :: ws) [32] := by
  simp [Lib.join, List.intercalate]
theorem join_sp : ∀ l : List UInt8, Lib.join (sp l) [32] = l
  | [] => by simp [sp, Lib.join_one]
  | c :: cs => by
    have ih := join_sp cs
    obtain ⟨w, ws, e⟩ := sp_cons cs
    by_cases hc : c = 32
    · subst hc
      rw [sp, if_pos rfl, e, join_two, ← e, ih]
      rfl
    · rw [sp, if_neg hc, e]
      rw [e] at ih
      show Lib.join ((c :: w) :: ws) [32] = c :: cs
      cases ws with
      | nil =>
        rw [Lib.join_one] at ih ⊢
        rw [ih]
      | cons v vs =>
        rw [join_two] at ih ⊢
        rw [List.cons_append, ih]
theorem sp_join : ∀ ws : List (List UInt8), ws ≠ [] → (∀ w ∈ ws, (32 : UInt8) ∉ w) → sp (Lib.join ws [32]) = ws
  | [], h, _ => absurd rfl h
  | [w], _, h => by
    rw [Lib.join_one]
    exact sp_one w (h w (by simp))
  | w :: v :: ws, _, h => by
    rw [join_two, sp_blank w _ (h w (by simp)), sp_join (v :: ws) (by simp) (fun x hx => h x (List.mem_cons_of_mem _ hx))]

/-- A number, as digits tell it. -/
def numV (acc : Nat) : List UInt8 → Option Nat
  | [] => some acc
  | c :: r => if 48 ≤ c.toNat ∧ c.toNat ≤ 57 then numV (10 * acc + (c.toNat - 48)) r else none
/-- A number that is written as it is told: at most nine digits, none that is needless. -/
def numF (l : List UInt8) : Option Nat := if l = [] ∨ 9 < l.length ∨ (l.head? = some 48 ∧ 1 < l.length) then none else numV 0 l
theorem numV_ge : ∀ (l : List UInt8) (acc n : Nat), numV acc l = some n → acc ≤ n
  | [], acc, n, h => by
    simp [numV] at h
    omega
  | c :: r, acc, n, h => by
    rw [numV] at h
    split at h
    · have := numV_ge r _ n h
      omega
    · cases h
theorem numV_lt : ∀ (l : List UInt8) (acc n : Nat), numV acc l = some n → n < (acc + 1) * 10 ^ l.length
  | [], acc, n, h => by
    simp [numV] at h
    simp [h]
  | c :: r, acc, n, h => by
    rw [numV] at h
    split at h
    · rename_i hc
      have ih := numV_lt r _ n h
      have h2 : (10 * acc + (c.toNat - 48) + 1) ≤ (acc + 1) * 10 := by omega
      have h3 := Nat.mul_le_mul_right (10 ^ r.length) h2
      rw [List.length_cons, Nat.pow_succ]
      calc n < (10 * acc + (c.toNat - 48) + 1) * 10 ^ r.length := ih
        _ ≤ (acc + 1) * 10 * 10 ^ r.length := h3
        _ = (acc + 1) * (10 ^ r.length * 10) := by rw [Nat.mul_assoc, Nat.mul_comm 10]
    · cases h
theorem numV_app : ∀ (l : List UInt8) (acc : Nat) (c : UInt8), numV acc (l ++ [c]) = match numV acc l with | some m => (if 48 ≤ c.toNat ∧ c.toNat ≤ 57 then some (10 * m + (c.toNat - 48)) else none) | none => none
  | [], acc, c => by
    simp [numV]
  | d :: l, acc, c => by
    rw [List.cons_append, numV, numV]
    split
    · exact numV_app l _ c
    · rfl
theorem numV_parse : ∀ (l : List UInt8) (acc n : Nat), numV acc l = some n → n < 1000000000 → Lib.parseUint10 acc l = .ok n
  | [], acc, n, h, _ => by
    simp [numV] at h
    rw [Lib.parseUint10, h]
  | c :: r, acc, n, h, hn => by
    rw [numV] at h
    split at h
    · rename_i hc
      have hge := numV_ge r _ n h
      have ih := numV_parse r _ n h hn
      rw [Lib.parseUint10, if_pos hc, if_neg (by omega), if_neg (by omega), Nat.mul_comm acc 10]
      exact ih
    · cases h
theorem numF_small {l : List UInt8} {n : Nat} (h : numF l = some n) : n < 1000000000 ∧ numV 0 l = some n ∧ l ≠ [] ∧ ¬ (l.head? = some 48 ∧ 1 < l.length) ∧ l.length ≤ 9 := by
  unfold numF at h
  split at h
  · cases h
  · rename_i hh
    have h1 : l ≠ [] := fun e => hh (.inl e)
    have h2 : l.length ≤ 9 := by
      rcases Nat.lt_or_ge 9 l.length with x | x
      · exact absurd (.inr (.inl x)) hh
      · exact x
    have h3 := numV_lt l 0 n h
    have h4 : 10 ^ l.length ≤ 10 ^ 9 := Nat.pow_le_pow_right (by decide) h2
    refine ⟨by omega, h, h1, fun x => hh (.inr (.inr x)), h2⟩
theorem digit_byte (d : Nat) (h : d < 10) : (UInt8.ofNat (48 + d)).toNat = 48 + d := by
  rw [UInt8.toNat_ofNat_of_lt' (by simp only [UInt8.size]; omega)]
theorem byte_digit (c : UInt8) (h : 48 ≤ c.toNat ∧ c.toNat ≤ 57) : UInt8.ofNat (48 + (c.toNat - 48)) = c := by
  rw [show 48 + (c.toNat - 48) = c.toNat by omega]
  simp
theorem head_app {a : List UInt8} (b : List UInt8) (h : a ≠ []) : (a ++ b).head? = a.head? := by
  cases a with
  | nil => exact absurd rfl h
  | cons c a => rfl
theorem dec_big {n : Nat} (h : ¬ n < 10) : Lib.decDigits n = Lib.decDigits (n / 10) ++ [UInt8.ofNat (48 + n % 10)] := by
  rw [Lib.decDigits, dif_neg h]
theorem dec_ne (n : Nat) : Lib.decDigits n ≠ [] := by
  by_cases h : n < 10
  · rw [Lib.decDigits_one h]
    simp
  · rw [dec_big h]
    simp
theorem dec_num (n : Nat) : numV 0 (Lib.decDigits n) = some n := by
  induction n using Nat.strongRecOn with
  | _ n ih =>
    by_cases h : n < 10
    · rw [Lib.decDigits_one h, numV, digit_byte n h, if_pos (by omega), numV]
      congr 1
      omega
    · rw [dec_big h, numV_app, ih (n / 10) (by omega)]
      simp only
      rw [digit_byte (n % 10) (by omega), if_pos (by omega)]
      congr 1
      omega
theorem dec_mem (n : Nat) : ∀ c ∈ Lib.decDigits n, 48 ≤ c.toNat ∧ c.toNat ≤ 57 := by
  induction n using Nat.strongRecOn with
  | _ n ih =>
    intro c hc
    by_cases h : n < 10
    · rw [Lib.decDigits_one h, List.mem_singleton] at hc
      rw [hc, digit_byte n h]
      omega
    · rw [dec_big h, List.mem_append, List.mem_singleton] at hc
      rcases hc with hc | hc
      · exact ih (n / 10) (by omega) c hc
      · rw [hc, digit_byte _ (by omega)]
        omega
theorem dec_blank (n : Nat) : (32 : UInt8) ∉ Lib.decDigits n := fun h => by
  have := dec_mem n _ h
  simp at this
theorem dec_head {n : Nat} (h : 1 ≤ n) : (Lib.decDigits n).head? ≠ some 48 := by
  induction n using Nat.strongRecOn with
  | _ n ih =>
    by_cases h10 : n < 10
    · rw [Lib.decDigits_one h10]
      intro e
      have e2 : UInt8.ofNat (48 + n) = 48 := by simpa using e
      have := congrArg UInt8.toNat e2
      rw [digit_byte n h10] at this
      simp at this
      omega
    · rw [dec_big h10, head_app _ (dec_ne _)]
      exact ih (n / 10) (by omega) (by omega)
theorem dec_length (n k : Nat) (h : n < 10 ^ (k + 1)) : (Lib.decDigits n).length ≤ k + 1 := by
  induction k generalizing n with
  | zero =>
    rw [Lib.decDigits_one (by simpa using h)]
    simp
  | succ k ih =>
    by_cases h10 : n < 10
    · rw [Lib.decDigits_one h10]
      simp
    · rw [dec_big h10, List.length_append]
      have := ih (n / 10) (by rw [Nat.pow_succ] at h; omega)
      simp
      omega
/-- A number's own digits are read as the number. -/
theorem num_dec {n : Nat} (h : n < 1000000000) : numF (Lib.decDigits n) = some n := by
  have hl := dec_length n 8 (by simpa using h)
  unfold numF
  rw [if_neg, dec_num]
  intro hh
  rcases hh with e | e | ⟨e1, e2⟩
  · exact dec_ne n e
  · omega
  · by_cases h10 : n < 10
    · rw [Lib.decDigits_one h10] at e2
      simp at e2
    · exact dec_head (by omega) e1
/-- What is read as a number is that number's digits. -/
theorem dec_of_numV (k : Nat) : ∀ (l : List UInt8) (n : Nat), l.length = k → l ≠ [] → ¬ (l.head? = some 48 ∧ 1 < l.length) → numV 0 l = some n → l = Lib.decDigits n := by
  induction k with
  | zero =>
    intro l n hl hne
    exact absurd (List.length_eq_zero_iff.1 hl) hne
  | succ k ih =>
    intro l n hl hne hh hv
    obtain ⟨r, c, rfl⟩ : ∃ r c, l = r ++ [c] := ⟨l.dropLast, l.getLast hne, (List.dropLast_concat_getLast hne).symm⟩
    rw [numV_app] at hv
    cases hm : numV 0 r with
    | none => rw [hm] at hv; cases hv
    | some m =>
      rw [hm] at hv
      simp only at hv
      split at hv
      · rename_i hc
        have hn : n = 10 * m + (c.toNat - 48) := (Option.some.inj hv).symm
        by_cases hr : r = []
        · subst hr
          simp [numV] at hm
          rw [Lib.decDigits_one (by omega), hn, ← hm, Nat.mul_zero, Nat.zero_add, byte_digit c hc]
          rfl
        · have hrl : r.length = k := by simpa using hl
          have hh2 : ¬ ((r ++ [c]).head? = some 48) := fun e => hh ⟨e, by
            have : 0 < r.length := List.length_pos_iff.2 hr
            simp
            omega⟩
          rw [head_app _ hr] at hh2
          have e := ih r m hrl hr (fun x => hh2 x.1) hm
          have hm1 : 1 ≤ m := by
            rcases Nat.eq_zero_or_pos m with h0 | h0
            · rw [h0, Lib.decDigits_one (by decide)] at e
              rw [e] at hh2
              exact absurd rfl hh2
            · exact h0
          rw [dec_big (by omega), ← show m = n / 10 by omega, ← e, show n % 10 = c.toNat - 48 by omega, byte_digit c hc]
      · cases hv
theorem num_is {l : List UInt8} {n : Nat} (h : numF l = some n) : l = Lib.decDigits n := by
  obtain ⟨_, h2, h3, h4, _⟩ := numF_small h
  exact dec_of_numV l.length l n rfl h3 h4 h2
/-- What is read as a number is parsed as that number. -/
theorem num_parse {l : List UInt8} {n : Nat} (h : numF l = some n) : Lib.parseIntB 64 l = .ok (n : Int) := by
  obtain ⟨h1, h2, h3, _, _⟩ := numF_small h
  have hp := numV_parse l 0 n h2 h1
  have hd := num_is h
  rw [Lib.parseIntB_64]
  cases l with
  | nil => exact absurd rfl h3
  | cons c r =>
    have hc := dec_mem n c (by rw [← hd]; simp)
    have e : ¬ (c.toNat = 43 ∨ c.toNat = 45) := by omega
    have e2 : ¬ c.toNat = 45 := by omega
    unfold Lib.atoiAll
    simp only [if_neg e, Lib.parseMag, if_neg (show ¬ (c :: r : List UInt8) = [] by simp), hp]
    rw [if_neg (by omega), if_neg (by omega), if_neg e2]
end Go.Proofs.YtljnhggblmdlnaaDoor
