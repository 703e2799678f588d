/-
  No statement is proved here: plans that are right, as numbers; no condition.
-/
import Derived.Test.YtapimmlhcbjgoaaLtV
import Derived.Test.YtapimmlhcbjgoaaOdV
import Derived.Test.YtapimmlhcbjgoaaLtS
import Derived.Test.YtapimmlhcbjgoaaOdS
import Derived.Test.YtapimmlhcbjgoaaIntsE
namespace Go.Proofs.Ytapimmlhcbjgoaa
open Go.ChangeShapes Go.WideShapes Go.ChangeAt Go.RowKit

def canB (l : Lt) (o : Od) : Bool := decide (l.1 = o.1) && decide (o.2 ≤ l.2)
/-- An order is taken from a lot. -/
def stepT (T : List Lt) (x : Int) (o : Od) : Option (List Lt) :=
  if x = -1 then some T else if (0 ≤ x ∧ x < (T.length : Int)) ∧ canB (atLt T x.toNat) o = true then some (T.set x.toNat ((atLt T x.toNat).1, (atLt T x.toNat).2 - o.2)) else none
def runT (T : List Lt) (os : List Od) (ps : List Int) : Nat → Option (List Lt)
  | 0 => some T
  | k + 1 => (runT T os ps k).bind fun U => stepT U (ps.getD k 0) (atOd os k)
def leftT (T : List Lt) (os : List Od) (ps : List Int) : Option (List Lt) := if ps.length = os.length then runT T os ps ps.length else none
theorem runT_step {T U : List Lt} {os : List Od} {ps : List Int} {k : Nat} (h : runT T os ps k = some U) : runT T os ps (k + 1) = stepT U (ps.getD k 0) (atOd os k) := by
  show (runT T os ps k).bind _ = _
  rw [h]
  rfl
theorem runT_none {T : List Lt} {os : List Od} {ps : List Int} {k : Nat} (h : runT T os ps k = none) : ∀ d, runT T os ps (k + d) = none
  | 0 => h
  | d + 1 => by
    show (runT T os ps (k + d)).bind _ = none
    rw [runT_none h d]
    rfl
theorem runT_stop {T U : List Lt} {os : List Od} {ps : List Int} {k : Nat} (h : runT T os ps k = some U) (hk : k < ps.length) (hs : stepT U (ps.getD k 0) (atOd os k) = none) : runT T os ps ps.length = none := by
  have h1 : runT T os ps (k + 1) = none := (runT_step h).trans hs
  have := runT_none h1 (ps.length - (k + 1))
  rwa [show k + 1 + (ps.length - (k + 1)) = ps.length by omega] at this
theorem stepT_skip (T : List Lt) (o : Od) : stepT T (-1) o = some T := if_pos rfl
theorem stepT_out {T : List Lt} {x : Int} {o : Od} (h1 : x ≠ -1) (h : x < 0 ∨ (T.length : Int) ≤ x) : stepT T x o = none := by
  rw [stepT, if_neg h1, if_neg (by omega)]
theorem stepT_not {T : List Lt} {q : Nat} {o : Od} (h : canB (atLt T q) o = false) : stepT T (q : Int) o = none := by
  rw [stepT, if_neg (by omega), if_neg]
  rw [Int.toNat_natCast, h]
  simp
theorem stepT_yes {T : List Lt} {q : Nat} {o : Od} (hq : q < T.length) (h : canB (atLt T q) o = true) : stepT T (q : Int) o = some (T.set q ((atLt T q).1, (atLt T q).2 - o.2)) := by
  rw [stepT, if_neg (by omega), if_pos]
  · rw [Int.toNat_natCast]
  · rw [Int.toNat_natCast]
    exact ⟨⟨by omega, by omega⟩, h⟩
theorem atLt_set {T : List Lt} {q : Nat} (hq : q < T.length) (y : Lt) (j : Nat) : atLt (T.set q y) j = if j = q then y else atLt T j := by
  unfold atLt
  by_cases e : j = q
  · subst e
    rw [if_pos rfl]
    simp [List.getD, hq]
  · rw [if_neg e, List.getD, List.getElem?_set_ne (fun e' => e e'.symm)]
    rfl
/-- What stays so in a stock: its length, its shades, and that its grams can be. -/
def Kept (T U : List Lt) : Prop := U.length = T.length ∧ ∀ j, (atLt U j).1 = (atLt T j).1 ∧ 0 ≤ (atLt U j).2 ∧ (atLt U j).2 ≤ 5000
theorem atLt_past {T : List Lt} {j : Nat} (h : T.length ≤ j) : atLt T j = (0, 0) := by unfold atLt; simp [List.getD, List.getElem?_eq_none h]
theorem kept_start {T : List Lt} (h : allLt T = true) : Kept T T := ⟨rfl, fun j => by
  by_cases hj : j < T.length
  · have := allLt_get h j hj
    have h' : (inB (atLt T j).1 0 9 && inB (atLt T j).2 0 5000) = true := this
    rw [Bool.and_eq_true] at h'
    exact ⟨rfl, (inB_of h'.2).1, (inB_of h'.2).2⟩
  · rw [atLt_past (by omega)]
    simp⟩
theorem kept_step {T U V : List Lt} {x : Int} {o : Od} (h : Kept T U) (ho : 1 ≤ o.2) (e : stepT U x o = some V) : Kept T V := by
  unfold stepT at e
  split at e
  · cases e
    exact h
  · split at e
    · rename_i h1 h2
      cases e
      obtain ⟨⟨hx0, hx1⟩, hc⟩ := h2
      have hq : x.toNat < U.length := by omega
      have hc' : o.2 ≤ (atLt U x.toNat).2 := by
        unfold canB at hc
        rw [Bool.and_eq_true] at hc
        exact of_decide_eq_true hc.2
      refine ⟨by rw [List.length_set]; exact h.1, fun j => ?_⟩
      rw [atLt_set hq]
      split
      · rename_i ej
        subst ej
        have := h.2 x.toNat
        exact ⟨this.1, by show 0 ≤ (atLt U x.toNat).2 - o.2; omega, by show (atLt U x.toNat).2 - o.2 ≤ 5000; omega⟩
      · exact h.2 j
    · cases e
theorem kept_run {T : List Lt} {os : List Od} {ps : List Int} (h : allLt T = true) (ho : allOd os = true) : ∀ k, k ≤ os.length → ∀ U, runT T os ps k = some U → Kept T U
  | 0, _, U, e => by cases e; exact kept_start h
  | k + 1, hk, U, e => by
    have e' : (runT T os ps k).bind (fun U => stepT U (ps.getD k 0) (atOd os k)) = some U := e
    cases hr : runT T os ps k with
    | none => rw [hr] at e'; cases e'
    | some V =>
      rw [hr] at e'
      have hok := allOd_get ho k (by omega)
      have h' : (inB (atOd os k).1 0 9 && inB (atOd os k).2 1 5000) = true := hok
      rw [Bool.and_eq_true] at h'
      exact kept_step (kept_run h ho k (by omega) V hr) (inB_of h'.2).1 e'
def grams (T : List Lt) : List Int := T.map (·.2)
theorem grams_get (T : List Lt) (j : Nat) : (grams T).getD j 0 = (atLt T j).2 := by
  unfold grams atLt
  by_cases hj : j < T.length
  · simp [List.getD, hj]
  · simp [List.getD, List.getElem?_eq_none (show T.length ≤ j by omega)]
theorem grams_length (T : List Lt) : (grams T).length = T.length := by simp [grams]
/-- What ServedBy and LeftIn answer. -/
def servedF (T : List Lt) (os : List Od) (ps : List Int) : Bool × Int := if isLts T = true ∧ isOds os = true then ((leftT T os ps).isSome, 0) else (false, 1)
def leftF (T : List Lt) (os : List Od) (ps : List Int) : List Int × Int := if isLts T = true ∧ isOds os = true then (match leftT T os ps with | some U => (grams U, 0) | none => ([], 4)) else ([], 1)
theorem servedF_yes {T : List Lt} {os : List Od} {ps : List Int} (h1 : isLts T = true) (h2 : isOds os = true) : servedF T os ps = ((leftT T os ps).isSome, 0) := if_pos ⟨h1, h2⟩
theorem servedF_no1 {T : List Lt} {os : List Od} {ps : List Int} (h1 : isLts T = false) : servedF T os ps = (false, 1) := if_neg (by rw [h1]; simp)
theorem servedF_no2 {T : List Lt} {os : List Od} {ps : List Int} (h1 : isOds os = false) : servedF T os ps = (false, 1) := if_neg (by rw [h1]; simp)
theorem leftF_some {T U : List Lt} {os : List Od} {ps : List Int} (h1 : isLts T = true) (h2 : isOds os = true) (h : leftT T os ps = some U) : leftF T os ps = (grams U, 0) := by rw [leftF, if_pos ⟨h1, h2⟩, h]
theorem leftF_none {T : List Lt} {os : List Od} {ps : List Int} (h1 : isLts T = true) (h2 : isOds os = true) (h : leftT T os ps = none) : leftF T os ps = ([], 4) := by rw [leftF, if_pos ⟨h1, h2⟩, h]
theorem leftF_no1 {T : List Lt} {os : List Od} {ps : List Int} (h1 : isLts T = false) : leftF T os ps = ([], 1) := if_neg (by rw [h1]; simp)
theorem leftF_no2 {T : List Lt} {os : List Od} {ps : List Int} (h1 : isOds os = false) : leftF T os ps = ([], 1) := if_neg (by rw [h1]; simp)
theorem leftT_kept {T U : List Lt} {os : List Od} {ps : List Int} (h1 : allLt T = true) (h2 : allOd os = true) (h : leftT T os ps = some U) : Kept T U := by
  unfold leftT at h
  split at h
  · rename_i e
    exact kept_run h1 h2 ps.length (by omega) U h
  · cases h
theorem leftF_len {T : List Lt} {os : List Od} {ps : List Int} : (leftF T os ps).1.length ≤ 2097152 := by
  by_cases h : isLts T = true ∧ isOds os = true
  · cases hl : leftT T os ps with
    | none => rw [leftF_none h.1 h.2 hl]; simp
    | some U =>
      rw [leftF_some h.1 h.2 hl]
      have := (leftT_kept (isLts_of h.1).1 (isOds_of h.2).1 hl).1
      have := (isLts_of h.1).2
      show (grams U).length ≤ _
      rw [grams_length]
      omega
  · rw [leftF, if_neg h]
    simp
theorem Lts.at {w : World} {a : Option Addr} {cap : Nat} {ys : List Lt} (h : Lts w (.slice a ys.length cap) ys) (h0 : 0 < ys.length) : ∃ b off, a = some ⟨b, off, none⟩ ∧ b < w.heap.size ∧
    ∀ j, j < ys.length → w.cell? ⟨b, off + j * 2, none⟩ = some (.int .i8 (atLt ys j).1) ∧ w.cell? ⟨b, off + j * 2 + 1, none⟩ = some (.int .i16 (atLt ys j).2) := by
  obtain ⟨b, off, c, e, hb, hc⟩ := h.pos h0
  simp only [Value.slice.injEq, true_and] at e
  obtain ⟨rfl, rfl⟩ := e
  exact ⟨b, off, rfl, hb, hc⟩
theorem Ods.at {w : World} {a : Option Addr} {cap : Nat} {ys : List Od} (h : Ods w (.slice a ys.length cap) ys) (h0 : 0 < ys.length) : ∃ b off, a = some ⟨b, off, none⟩ ∧ b < w.heap.size ∧
    ∀ j, j < ys.length → w.cell? ⟨b, off + j * 2, none⟩ = some (.int .i8 (atOd ys j).1) ∧ w.cell? ⟨b, off + j * 2 + 1, none⟩ = some (.int .i16 (atOd ys j).2) := by
  obtain ⟨b, off, c, e, hb, hc⟩ := h.pos h0
  simp only [Value.slice.injEq, true_and] at e
  obtain ⟨rfl, rfl⟩ := e
  exact ⟨b, off, rfl, hb, hc⟩
theorem ints_at {w : World} {a : Option Addr} {cap : Nat} {zs : List Int} (h : Ints w (.slice a zs.length cap) zs) (h0 : 0 < zs.length) : ∃ b off, a = some ⟨b, off, none⟩ ∧ b < w.heap.size ∧ ∀ j, j < zs.length → w.cell? ⟨b, off + j, none⟩ = some (.int .i64 (zs.getD j 0)) := by
  rcases h with ⟨a', c', e, rfl⟩ | ⟨b, off, c', e, _, hb, hc⟩
  · simp at h0
  · simp only [Value.slice.injEq, true_and] at e
    obtain ⟨rfl, rfl⟩ := e
    exact ⟨b, off, rfl, hb, hc⟩
theorem own_at {w : World} {base : Nat} {a : Option Addr} {n cap : Nat} {zs : List Int} (h : Own w base (.slice a n cap) zs) (hn : n = zs.length) (h0 : 0 < n) : ∃ g, a = some ⟨g, 0, none⟩ ∧ base ≤ g ∧ g < w.heap.size := by
  rcases h.block with ⟨rfl, e⟩ | ⟨g, c, e, hb, hg, _⟩
  · simp at hn
    omega
  · simp only [Value.slice.injEq] at e
    exact ⟨g, e.1, hb, hg⟩
end Go.Proofs.Ytapimmlhcbjgoaa
