/-
  No statement is proved here: strands that are wound onto reels by their numbers, and which of them are on one reel; condition: as many numbers as strands.
-/
import Derived.Test.YtaanjjmochfhgaaDoorWindM
namespace Go.Proofs.YtaanjjmochfhgaaDoor
open Go.RowKit

/-- The strands with a number. -/
def subS : List Sn → List Int → Int → List Sn
  | s :: ss, n :: ns, r => if n = r then s :: subS ss ns r else subS ss ns r
  | _, _, _ => []
/-- How many of the first k numbers are so. -/
def cntS (ns : List Int) (r : Int) : Nat → Nat
  | 0 => 0
  | k + 1 => cntS ns r k + (if ns.getD k 0 = r then 1 else 0)
/-- How many reels the first k numbers want. -/
def mxS (ns : List Int) : Nat → Nat
  | 0 => 0
  | k + 1 => max (mxS ns k) ((ns.getD k 0).toNat + 1)
theorem cntS_cons (n : Int) (ns : List Int) (r : Int) : ∀ k, cntS (n :: ns) r (k + 1) = (if n = r then 1 else 0) + cntS ns r k
  | 0 => by simp [cntS]
  | k + 1 => by
    rw [cntS, cntS_cons n ns r k, cntS, Nat.add_assoc]
    rfl
theorem subS_at (r : Int) : ∀ (ss : List Sn) (ns : List Int), ns.length = ss.length → ∀ k, k < ss.length → ns.getD k 0 = r → cntS ns r k < (subS ss ns r).length ∧ sat (subS ss ns r) (cntS ns r k) = sat ss k
  | [], _, _, k, hk, _ => by simp at hk
  | s :: ss, [], hl, k, hk, _ => by simp at hl
  | s :: ss, n :: ns, hl, 0, hk, h => by
    have e : n = r := h
    rw [subS, if_pos e]
    exact ⟨by simp [cntS], rfl⟩
  | s :: ss, n :: ns, hl, k + 1, hk, h => by
    have ih := subS_at r ss ns (by simpa using hl) k (by simpa using hk) h
    rw [cntS_cons]
    by_cases e : n = r
    · rw [subS, if_pos e, if_pos e, Nat.add_comm]
      exact ⟨by simpa using ih.1, ih.2⟩
    · rw [subS, if_neg e, if_neg e, Nat.zero_add]
      exact ih
theorem subS_len (r : Int) : ∀ (ss : List Sn) (ns : List Int), ns.length = ss.length → (subS ss ns r).length = cntS ns r ss.length
  | [], _, _ => rfl
  | s :: ss, [], hl => by simp at hl
  | s :: ss, n :: ns, hl => by
    have ih := subS_len r ss ns (by simpa using hl)
    rw [List.length_cons, cntS_cons, ← ih]
    by_cases e : n = r
    · rw [subS, if_pos e, if_pos e]; simp [Nat.add_comm]
    · rw [subS, if_neg e, if_neg e]; simp
theorem cntS_mono (ns : List Int) (r : Int) {k : Nat} : ∀ n, k ≤ n → cntS ns r k ≤ cntS ns r n
  | 0, hk => by obtain rfl : k = 0 := by omega
                exact Nat.le_refl _
  | n + 1, hk => by
    by_cases hkn : k = n + 1
    · subst hkn; exact Nat.le_refl _
    · have := cntS_mono ns r (k := k) n (by omega)
      rw [cntS]
      omega
theorem subS_le {ss : List Sn} {ns : List Int} (r : Int) (hl : ns.length = ss.length) (k : Nat) (hk : k ≤ ss.length) : cntS ns r k ≤ (subS ss ns r).length := by
  rw [subS_len r ss ns hl]
  exact cntS_mono ns r _ hk
/-- Each strand of a reel is one of the strands that are wound. -/
theorem subS_from (r : Int) : ∀ (ss : List Sn) (ns : List Int), ns.length = ss.length → ∀ q, q < (subS ss ns r).length → ∃ k, k < ss.length ∧ ns.getD k 0 = r ∧ cntS ns r k = q
  | [], _, _, q, hq => by simp [subS] at hq
  | s :: ss, [], hl, q, _ => by simp at hl
  | s :: ss, n :: ns, hl, q, hq => by
    by_cases e : n = r
    · rw [subS, if_pos e] at hq
      cases q with
      | zero => exact ⟨0, by simp, e, rfl⟩
      | succ q =>
        obtain ⟨k, h1, h2, h3⟩ := subS_from r ss ns (by simpa using hl) q (by simpa using hq)
        exact ⟨k + 1, by simpa using h1, h2, by rw [cntS_cons, if_pos e, h3, Nat.add_comm]⟩
    · rw [subS, if_neg e] at hq
      obtain ⟨k, h1, h2, h3⟩ := subS_from r ss ns (by simpa using hl) q hq
      exact ⟨k + 1, by simpa using h1, h2, by rw [cntS_cons, if_neg e, h3, Nat.zero_add]⟩
theorem subS_all {ss : List Sn} {ns : List Int} (r : Int) (hl : ns.length = ss.length) (h : allS ss = true) : allS (subS ss ns r) = true := by
  rw [allS, List.all_eq_true]
  intro s hs
  obtain ⟨q, hq, rfl⟩ := List.mem_iff_getElem.1 hs
  obtain ⟨k, h1, h2, h3⟩ := subS_from r ss ns hl q hq
  have h4 := (subS_at r ss ns hl k h1 h2).2
  rw [h3] at h4
  have h5 := allS_get h k h1
  rw [← h4] at h5
  simpa [sat, List.getD, List.getElem?_eq_getElem hq] using h5
theorem mxS_zero {ns : List Int} (h0 : ∀ k, 0 ≤ ns.getD k 0) {r : Nat} : ∀ k, mxS ns k ≤ r → cntS ns (r : Int) k = 0
  | 0, _ => rfl
  | k + 1, h => by
    rw [mxS] at h
    have := h0 k
    rw [cntS, mxS_zero h0 k (by omega), if_neg (by omega)]
/-- All strands are wound as they may be. -/
def rightB (m : Nat → Int) (hold : Int) (ss : List Sn) (ns : List Int) : Bool := (List.range ss.length).all fun k => takesAt m hold (subS ss ns (ns.getD k 0)) (cntS ns (ns.getD k 0) k)
theorem rightB_no {m : Nat → Int} {hold : Int} {ss : List Sn} {ns : List Int} {k : Nat} (hk : k < ss.length) (h : takesAt m hold (subS ss ns (ns.getD k 0)) (cntS ns (ns.getD k 0) k) = false) : rightB m hold ss ns = false := by
  unfold rightB
  rw [List.all_eq_false]
  exact ⟨k, List.mem_range.2 hk, by rw [h]; simp⟩
theorem rightB_all {m : Nat → Int} {hold : Int} {ss : List Sn} {ns : List Int} (h : ∀ k, k < ss.length → takesAt m hold (subS ss ns (ns.getD k 0)) (cntS ns (ns.getD k 0) k) = true) : rightB m hold ss ns = true := by
  unfold rightB
  rw [List.all_eq_true]
  exact fun k hk => h k (List.mem_range.1 hk)
theorem rightB_iff {m : Nat → Int} {hold : Int} {ss : List Sn} {ns : List Int} (h8 : Bytes6 m) (h : meetsB m = true) (hal : allS ss = true) (hh : 0 ≤ hold) (hd : ∀ r k, k < (subS ss ns r).length → dy (subS ss ns r) k < 6) (hl : ns.length = ss.length) :
    rightB m hold ss ns = true ↔ ∀ k, k < ss.length → onB m hold (subS ss ns (ns.getD k 0)) = true := by
  constructor
  · intro hr k hk
    rw [wind_on h8 h (subS_all _ hl hal) hh (hd _)]
    intro q hq
    obtain ⟨i, h1, h2, h3⟩ := subS_from _ ss ns hl q hq
    unfold rightB at hr
    rw [List.all_eq_true] at hr
    have := hr i (List.mem_range.2 h1)
    rw [h2, h3] at this
    exact this
  · intro ho
    refine rightB_all fun k hk => ?_
    have := ho k hk
    rw [wind_on h8 h (subS_all _ hl hal) hh (hd _)] at this
    exact this _ (subS_at _ ss ns hl k hk rfl).1
/-- Where all numbers are the same, all strands are on one reel. -/
theorem subS_same (r : Int) : ∀ (ss : List Sn) (ns : List Int), ns.length = ss.length → (∀ k, k < ss.length → ns.getD k 0 = r) → subS ss ns r = ss
  | [], _, _, _ => rfl
  | s :: ss, [], hl, _ => by simp at hl
  | s :: ss, n :: ns, hl, h => by
    have e : n = r := h 0 (by simp)
    rw [subS, if_pos e, subS_same r ss ns (by simpa using hl) (fun k hk => h (k + 1) (by simpa using hk))]
end Go.Proofs.YtaanjjmochfhgaaDoor
