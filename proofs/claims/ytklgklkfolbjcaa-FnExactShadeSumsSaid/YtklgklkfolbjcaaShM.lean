/-
  No statement is proved here: what lots have and orders want of each shade, as numbers; no condition.
-/
import Derived.Test.YtklgklkfolbjcaaLfM
import Derived.Test.YtklgklkfolbjcaaPrHeld
namespace Go.Proofs.Ytklgklkfolbjcaa
open Go.ChangeShapes Go.WideShapes Go.ChangeAt Go.RowKit

def lotTo (ys : List Lt) (s : Nat) : Nat → Int
  | 0 => 0
  | k + 1 => lotTo ys s k + if (atLt ys k).1 = (s : Int) then (atLt ys k).2 else 0
theorem okLt_parts {y0 y1 : Int} (h : okLt (y0, y1) = true) : ∃ q : Nat, y0 = q ∧ q < 10 ∧ 0 ≤ y1 ∧ y1 ≤ 5000 := by
  have h' : (inB y0 0 9 && inB y1 0 5000) = true := h
  rw [Bool.and_eq_true] at h'
  have h1 := inB_of h'.1
  have h2 := inB_of h'.2
  exact ⟨y0.toNat, by omega, by omega, by omega, by omega⟩
theorem lotTo_in {ys : List Lt} (h : allLt ys = true) (s : Nat) : ∀ k, k ≤ ys.length → 0 ≤ lotTo ys s k ∧ lotTo ys s k ≤ 5000 * (k : Int)
  | 0, _ => by simp [lotTo]
  | k + 1, hk => by
    have ih := lotTo_in h s k (by omega)
    have hok := allLt_get h k (by omega)
    obtain ⟨q, _, _, h0, h1⟩ := okLt_parts (y0 := (atLt ys k).1) (y1 := (atLt ys k).2) hok
    simp only [lotTo]
    split <;> omega
theorem lotTo_hit {ys : List Lt} {s k : Nat} {g : Int} (h : atLt ys k = ((s : Int), g)) : lotTo ys s (k + 1) = lotTo ys s k + g := by simp [lotTo, h]
theorem lotTo_miss {ys : List Lt} {s t k : Nat} {g : Int} (h : atLt ys k = ((t : Int), g)) (hne : s ≠ t) : lotTo ys s (k + 1) = lotTo ys s k := by
  simp only [lotTo, h]
  rw [if_neg (by omega)]
  omega
def ordTo (ys : List Od) (s : Nat) : Nat → Int
  | 0 => 0
  | k + 1 => ordTo ys s k + if (atOd ys k).1 = (s : Int) then (atOd ys k).2 else 0
theorem okOd_parts {y0 y1 : Int} (h : okOd (y0, y1) = true) : ∃ q : Nat, y0 = q ∧ q < 10 ∧ 0 ≤ y1 ∧ y1 ≤ 5000 := by
  have h' : (inB y0 0 9 && inB y1 1 5000) = true := h
  rw [Bool.and_eq_true] at h'
  have h1 := inB_of h'.1
  have h2 := inB_of h'.2
  exact ⟨y0.toNat, by omega, by omega, by omega, by omega⟩
theorem ordTo_in {ys : List Od} (h : allOd ys = true) (s : Nat) : ∀ k, k ≤ ys.length → 0 ≤ ordTo ys s k ∧ ordTo ys s k ≤ 5000 * (k : Int)
  | 0, _ => by simp [ordTo]
  | k + 1, hk => by
    have ih := ordTo_in h s k (by omega)
    have hok := allOd_get h k (by omega)
    obtain ⟨q, _, _, h0, h1⟩ := okOd_parts (y0 := (atOd ys k).1) (y1 := (atOd ys k).2) hok
    simp only [ordTo]
    split <;> omega
theorem ordTo_hit {ys : List Od} {s k : Nat} {g : Int} (h : atOd ys k = ((s : Int), g)) : ordTo ys s (k + 1) = ordTo ys s k + g := by simp [ordTo, h]
theorem ordTo_miss {ys : List Od} {s t k : Nat} {g : Int} (h : atOd ys k = ((t : Int), g)) (hne : s ≠ t) : ordTo ys s (k + 1) = ordTo ys s k := by
  simp only [ordTo, h]
  rw [if_neg (by omega)]
  omega
def flat (ls : List Lt) (os : List Od) (k j : Nat) : List Int := (List.range 20).map fun i => if i % 2 = 0 then lotTo ls (i / 2) k else ordTo os (i / 2) j
theorem flat_length (ls : List Lt) (os : List Od) (k j : Nat) : (flat ls os k j).length = 20 := by simp [flat]
theorem flat_get (ls : List Lt) (os : List Od) (k j i : Nat) (hi : i < 20) : (flat ls os k j)[i]? = some (if i % 2 = 0 then lotTo ls (i / 2) k else ordTo os (i / 2) j) := by simp [flat, hi]
theorem flat_lot {ls : List Lt} {os : List Od} {k j q : Nat} {g : Int} (hq : q < 10) (h : atLt ls k = ((q : Int), g)) : (flat ls os k j).set (q * 2) (lotTo ls q k + g) = flat ls os (k + 1) j := by
  apply List.ext_getElem?
  intro i
  rw [List.getElem?_set]
  by_cases hi : i < 20
  · split
    · rename_i e
      subst e
      rw [if_pos (by rw [flat_length]; exact hi), flat_get _ _ _ _ _ hi, if_pos (by omega), show q * 2 / 2 = q by omega, lotTo_hit h]
    · rename_i e
      rw [flat_get _ _ _ _ _ hi, flat_get _ _ _ _ _ hi]
      by_cases h2 : i % 2 = 0
      · rw [if_pos h2, if_pos h2, lotTo_miss h (by omega)]
      · rw [if_neg h2, if_neg h2]
  · rw [if_neg (by omega), List.getElem?_eq_none (by rw [flat_length]; omega), List.getElem?_eq_none (by rw [flat_length]; omega)]
theorem flat_ord {ls : List Lt} {os : List Od} {k j q : Nat} {g : Int} (hq : q < 10) (h : atOd os j = ((q : Int), g)) : (flat ls os k j).set (q * 2 + 1) (ordTo os q j + g) = flat ls os k (j + 1) := by
  apply List.ext_getElem?
  intro i
  rw [List.getElem?_set]
  by_cases hi : i < 20
  · split
    · rename_i e
      subst e
      rw [if_pos (by rw [flat_length]; exact hi), flat_get _ _ _ _ _ hi, if_neg (by omega), show (q * 2 + 1) / 2 = q by omega, ordTo_hit h]
    · rename_i e
      rw [flat_get _ _ _ _ _ hi, flat_get _ _ _ _ _ hi]
      by_cases h2 : i % 2 = 0
      · rw [if_pos h2, if_pos h2]
      · rw [if_neg h2, if_neg h2, ordTo_miss h (by omega)]
  · rw [if_neg (by omega), List.getElem?_eq_none (by rw [flat_length]; omega), List.getElem?_eq_none (by rw [flat_length]; omega)]
def table (ls : List Lt) (os : List Od) : List (Nat → Int) := (List.range 10).map fun s i => if i = 0 then lotTo ls s ls.length else ordTo os s os.length
theorem table_cells (ls : List Lt) (os : List Od) : cellsPr (table ls os) = (flat ls os ls.length os.length).map (Value.int .i64) := rfl
theorem flat_zero (ls : List Lt) (os : List Od) : (flat ls os 0 0).map (Value.int .i64) = List.replicate 20 (.int .i64 0) := by
  apply List.ext_getElem?
  intro i
  by_cases hi : i < 20
  · rw [List.getElem?_map, flat_get _ _ _ _ _ hi, List.getElem?_replicate, if_pos hi]
    simp [lotTo, ordTo]
  · rw [List.getElem?_eq_none (by simp [flat_length]; omega), List.getElem?_eq_none (by simp; omega)]
/-- What ShadeSums answers. -/
def shadeF (ls : List Lt) (os : List Od) : List (Nat → Int) × Int := if isLts ls = true ∧ isOds os = true then (table ls os, 0) else ([], 1)
theorem shadeF_yes {T : List Lt} {os : List Od} (h1 : isLts T = true) (h2 : isOds os = true) : shadeF T os = (table T os, 0) := if_pos ⟨h1, h2⟩
theorem shadeF_no1 {T : List Lt} {os : List Od} (h1 : isLts T = false) : shadeF T os = ([], 1) := if_neg (by rw [h1]; simp)
theorem shadeF_no2 {T : List Lt} {os : List Od} (h1 : isOds os = false) : shadeF T os = ([], 1) := if_neg (by rw [h1]; simp)
theorem shadeF_len {T : List Lt} {os : List Od} : (shadeF T os).1.length ≤ 2097152 := by
  unfold shadeF
  split <;> simp [table]
theorem drew_grown (W : World) : W.grownBy W.drew none := ⟨rfl, rfl, rfl, Nat.le_refl _, fun _ _ _ => rfl⟩
theorem madePr : (madeCells (Value.agg #[.int .i64 0, .int .i64 0]).cells (10 * 2)).toList = List.replicate 20 (Value.int .i64 0) := by
  show (madeCells #[Value.int .i64 0, .int .i64 0] 20).toList = _
  apply List.ext_getElem?
  intro j
  rw [List.getElem?_replicate]
  by_cases hj : j < 20
  · rw [if_pos hj]
    have h3 : j % 2 = 0 ∨ j % 2 = 1 := by omega
    rcases h3 with h3 | h3 <;> simp [madeCells, hj, h3]
  · rw [if_neg hj, List.getElem?_eq_none (by simp [madeCells]; omega)]
end Go.Proofs.Ytklgklkfolbjcaa
