/-
  No statement is proved here: the holes of a text, as lists of bytes; no condition.
-/
import Derived.Test.YtopfehbdnopokaaHoP
import Derived.Test.YtopfehbdnopokaaHtD
namespace Go.Proofs.Ytopfehbdnopokaa
open Go.ChangeShapes Go.WideShapes Go.ChangeAt Go.RowKit

def joinL : List (List UInt8) → List UInt8
  | [] => []
  | [a] => a
  | a :: b :: t => a ++ 10 :: joinL (b :: t)
theorem join_nl : ∀ l, joinL (nl l) = l
  | [] => rfl
  | c :: cs => by
    have ih := join_nl cs
    obtain ⟨w, ws, hw⟩ := nl_cons cs
    rw [nl, hw]
    rw [hw] at ih
    split
    · next h => rw [joinL, ih, h]; rfl
    · simp only [List.headD_cons, List.tail_cons]
      cases ws with
      | nil =>
        rw [joinL] at ih ⊢
        rw [ih]
      | cons b t =>
        rw [joinL] at ih ⊢
        rw [List.cons_append, ih]
theorem joinL_rows : ∀ R : List (List UInt8), joinL (R ++ [[]]) = R.flatMap (· ++ [10])
  | [] => rfl
  | [a] => by simp [joinL]
  | a :: b :: t => by
    have ih := joinL_rows (b :: t)
    rw [List.cons_append, List.cons_append, joinL, ← List.cons_append, ih]
    simp
theorem nl_flat : ∀ R : List (List UInt8), (∀ r ∈ R, (10 : UInt8) ∉ r) → nl (R.flatMap (· ++ [10])) = R ++ [[]]
  | [], _ => rfl
  | a :: t, h => by
    have ih := nl_flat t fun r hr => h r (List.mem_cons_of_mem _ hr)
    rw [List.flatMap_cons, List.append_assoc, List.singleton_append, nl_blank _ _ (h a (by simp)), ih]
    rfl
theorem txH_flat (h : Nat → Int) : ∀ n, txH h n = ((List.range n).map fun y => rowH h y 8).flatMap (· ++ [10])
  | 0 => rfl
  | n + 1 => by
    rw [txH, txH_flat h n, List.range_succ, List.map_append, List.flatMap_append, List.append_assoc]
    simp
theorem chH_or (h : Nat → Int) (x y : Nat) : chH h x y = 111 ∨ chH h x y = 46 := by
  unfold chH
  split
  · exact Or.inl rfl
  · exact Or.inr rfl
theorem chH_is (h : Nat → Int) (x y : Nat) : (chH h x y == 111) = hasH h x y := by
  unfold chH
  cases hasH h x y <;> rfl
theorem rowH_get (h : Nat → Int) (y : Nat) : ∀ n x, x < n → (rowH h y n)[x]? = some (chH h x y)
  | 0, x, hx => absurd hx (by omega)
  | n + 1, x, hx => by
    rw [rowH]
    by_cases e : x < n
    · rw [List.getElem?_append_left (by rw [rowH_len]; exact e)]
      exact rowH_get h y n x e
    · have : x = n := by omega
      subst this
      rw [List.getElem?_append_right (by rw [rowH_len]; exact Nat.le_refl _), rowH_len, Nat.sub_self]
      rfl
theorem rowH_no (h : Nat → Int) (y : Nat) : (10 : UInt8) ∉ rowH h y 8 := fun hm => by
  obtain ⟨i, hi, e⟩ := List.getElem_of_mem hm
  have hi8 : i < 8 := by rw [rowH_len] at hi; exact hi
  have := rowH_get h y 8 i hi8
  rw [List.getElem?_eq_getElem hi, e] at this
  have h2 := Option.some.inj this
  rcases chH_or h i y with h3 | h3
  · rw [h3] at h2; exact absurd h2 (by decide)
  · rw [h3] at h2; exact absurd h2 (by decide)
theorem txH_get (h : Nat → Int) (x y : Nat) (hx : x < 8) : ∀ n, y < n → (txH h n)[9 * y + x]? = some (chH h x y)
  | 0, hy => absurd hy (by omega)
  | n + 1, hy => by
    rw [txH, List.getElem?_append_left (by rw [List.length_append, txH_len, rowH_len]; omega)]
    by_cases e : y < n
    · rw [List.getElem?_append_left (by rw [txH_len]; omega)]
      exact txH_get h x y hx n e
    · have : y = n := by omega
      subst this
      rw [List.getElem?_append_right (by rw [txH_len]; omega), txH_len, show 9 * y + x - 9 * y = x by omega]
      exact rowH_get h y 8 x hx
theorem toldT_tx (h : Nat → Int) {x y : Nat} (hx : x < 8) (hy : y < 8) : toldT (txH h 8) x y = hasH h x y := by
  unfold toldT
  rw [List.getD, txH_get h x y hx 8 hy]
  exact chH_is h x y
theorem hasH_tl (f : Nat → Nat → Bool) {x y : Nat} (hx : x < 8) (hy : y < 8) : hasH (tlF f) x y = f x y := by
  rw [hasH_in hx hy]
  exact testBit_numTo (fun x => f x y) hx
theorem tl_tx {h : Nat → Int} (h8 : Bytes8 h) {y : Nat} (hy : y < 8) : tlF (toldT (txH h 8)) y = h y := by
  have e := numTo_bits (h8 y hy)
  rw [← e]
  unfold tlF
  exact congrArg Nat.cast (numTo_congr 8 fun x hx => by rw [toldT_tx h hx hy, hasH_in hx hy])
theorem rowH_congr {h h' : Nat → Int} {y : Nat} (hy : y < 8) (e : h y = h' y) : ∀ n, n ≤ 8 → rowH h y n = rowH h' y n
  | 0, _ => rfl
  | n + 1, hn => by
    rw [rowH, rowH, rowH_congr hy e n (by omega), chH, chH, hasH_in (by omega) hy, hasH_in (by omega) hy, e]
theorem txH_congr {h h' : Nat → Int} (e : ∀ y, y < 8 → h y = h' y) : ∀ n, n ≤ 8 → txH h n = txH h' n
  | 0, _ => rfl
  | n + 1, hn => by rw [txH, txH, txH_congr e n (by omega), rowH_congr (by omega) (e n (by omega)) 8 (Nat.le_refl _)]

/-- What the lines tell; lines that are holes. -/
def lnT (L : List (List UInt8)) (x y : Nat) : Bool := (L.getD y []).getD x 0 == 111
def lnOk (r : List UInt8) : Prop := r.length = 8 ∧ ∀ x, x < 8 → r.getD x 0 = 111 ∨ r.getD x 0 = 46
def okL (L : List (List UInt8)) : Prop := L.length = 9 ∧ L.getD 8 [] = [] ∧ ∀ y, y < 8 → lnOk (L.getD y [])
theorem row_ln {L : List (List UInt8)} (h : okL L) {y : Nat} (hy : y < 8) : rowH (tlF (lnT L)) y 8 = L.getD y [] := by
  obtain ⟨hl, hc⟩ := h.2.2 y hy
  refine List.ext_getElem? fun i => ?_
  by_cases hi : i < 8
  · have h1 := hc i hi
    have hi2 : i < (L.getD y []).length := by omega
    have h3 : (L.getD y []).getD i 0 = (L.getD y [])[i] := by rw [List.getD_eq_getElem?_getD, List.getElem?_eq_getElem hi2]; rfl
    rw [rowH_get _ _ 8 i hi, chH, hasH_tl _ hi hy, lnT, List.getElem?_eq_getElem hi2, ← h3]
    rcases h1 with h1 | h1
    · rw [h1]; rfl
    · rw [h1]; rfl
  · rw [List.getElem?_eq_none (by rw [rowH_len]; omega), List.getElem?_eq_none (by omega)]
theorem ln_all {L : List (List UInt8)} (h : okL L) : L = ((List.range 8).map fun y => rowH (tlF (lnT L)) y 8) ++ [[]] := by
  have e : ((List.range 8).map fun y => rowH (tlF (lnT L)) y 8) = (List.range 8).map fun y => L.getD y [] := List.map_congr_left fun y hy => row_ln h (List.mem_range.1 hy)
  rw [e]
  obtain ⟨hl, h8, _⟩ := h
  match L, hl, h8 with
  | [a0, a1, a2, a3, a4, a5, a6, a7, a8], _, h8 =>
    have : a8 = [] := h8
    subst this
    rfl
theorem ok_tx {l : List UInt8} (h : okL (nl l)) : l = txH (tlF (lnT (nl l))) 8 := by
  have e := ln_all h
  have j := join_nl l
  rw [e, joinL_rows, ← txH_flat] at j
  exact j.symm
theorem ok_tl {l : List UInt8} (h : okL (nl l)) {y : Nat} (hy : y < 8) : tlF (lnT (nl l)) y = tlF (toldT l) y := by
  have e := tl_tx (tlF_bytes (lnT (nl l))) hy
  rw [← ok_tx h] at e
  exact e.symm
theorem ok_iff (l : List UInt8) : okL (nl l) ↔ l = txH (tlF (toldT l)) 8 := by
  constructor
  · intro h
    have e := ok_tx h
    rw [txH_congr (fun y hy => ok_tl h hy) 8 (Nat.le_refl _)] at e
    exact e
  · intro h
    have e : nl l = ((List.range 8).map fun y => rowH (tlF (toldT l)) y 8) ++ [[]] := by
      have := nl_flat ((List.range 8).map fun y => rowH (tlF (toldT l)) y 8) (fun r hr => by
        obtain ⟨y, _, rfl⟩ := List.mem_map.1 hr
        exact rowH_no _ y)
      rw [← txH_flat, ← h] at this
      exact this
    rw [e]
    refine ⟨by simp, by simp [List.range_succ], fun y hy => ?_⟩
    have e2 : (((List.range 8).map fun y => rowH (tlF (toldT l)) y 8) ++ [[]]).getD y [] = rowH (tlF (toldT l)) y 8 := by
      rw [List.getD, List.getElem?_append_left (by simp; exact hy), List.getElem?_map, List.getElem?_range hy]
      rfl
    rw [e2]
    refine ⟨rowH_len _ _ _, fun x hx => ?_⟩
    rw [List.getD, rowH_get _ _ 8 x hx]
    exact chH_or _ x y
def z8 : Nat → Int := fun _ => 0
def readF (l : List UInt8) : (Nat → Int) × Int := if l = txH (tlF (toldT l)) 8 then (tlF (toldT l), 0) else (z8, 5)
theorem readF_yes {l : List UInt8} (h : l = txH (tlF (toldT l)) 8) : readF l = (tlF (toldT l), 0) := if_pos h
theorem readF_no {l : List UInt8} (h : ¬ l = txH (tlF (toldT l)) 8) : readF l = (z8, 5) := if_neg h
theorem readF_bad {l : List UInt8} (h : ¬ okL (nl l)) : readF l = (z8, 5) := readF_no fun e => h ((ok_iff l).2 e)
theorem readF_ok {l : List UInt8} (h : okL (nl l)) : readF l = (tlF (toldT l), 0) := readF_yes ((ok_iff l).1 h)
end Go.Proofs.Ytopfehbdnopokaa
