/-
  No statement is proved here: what ReadWeb answers, as lists of bytes.
-/
import Derived.Test.YtljnhggblmdlnaaDoorReadFacts
import Derived.Test.YtljnhggblmdlnaaDoorWeb
import Derived.Deep.AppendLies
namespace Go.Proofs.YtljnhggblmdlnaaDoor
open Go.ChangeShapes Go.WideShapes Go.ChangeAt Go.RowKit


theorem toList_is (s : ByteArray) : s.toList = s.data.toList := ByteArray.toList_eq s
/-- What is told of a number, and whether there is one. -/
def numN (l : List UInt8) : Nat := (numF l).getD 0
def numB (l : List UInt8) : Bool := (numF l).isSome
theorem numF_bad {l : List UInt8} (h : l = [] ∨ 9 < l.length ∨ (l.head? = some 48 ∧ 1 < l.length)) : numN l = 0 ∧ numB l = false := by
  have : numF l = none := if_pos h
  rw [numN, numB, this]
  exact ⟨rfl, rfl⟩
theorem str_one (a : ByteArray) : ∀ u ∈ [Value.string a], u.oneCell' = true := by intro u hu; simp at hu; subst hu; rfl
theorem grown_alloc2 {w w' : World} {o : Obj} {row : Option Nat} (h : (w.alloc o).grownBy w' row) : w.grownBy w' row :=
  ⟨h.os, h.tape, h.output, Nat.le_trans (by simp) h.size, fun i hi hne => (h.block i (by simp; omega) hne).trans (Below.heap_alloc w o i hi)⟩

/-- Texts that lie in a block. -/
def Texts (w : World) (g : Nat) (ws : List (List UInt8)) : Prop := g < w.heap.size ∧ ∀ j, j < ws.length → w.cell? ⟨g, j, none⟩ = some (.string ⟨(ws.getD j []).toArray⟩)
theorem Texts.below {w w' : World} {g : Nat} {ws : List (List UInt8)} (h : Texts w g ws) (hB : Below w.heap.size w w') : Texts w' g ws :=
  ⟨Nat.lt_of_lt_of_le h.1 hB.size, fun j hj => kept hB h.1 (h.2 j hj)⟩
theorem Texts.grown {w w' : World} {g : Nat} {ws : List (List UInt8)} {row : Option Nat} (h : Texts w g ws) (hg : w.grownBy w' row) (hne : some g ≠ row) : Texts w' g ws :=
  ⟨Nat.lt_of_lt_of_le h.1 hg.size, fun j hj => hg.cell (h.2 j hj) hne⟩
theorem strAt {ws : List (List UInt8)} {j : Nat} (hj : j < ws.length) : (ws.map fun x => Value.string ⟨x.toArray⟩)[j]? = some (.string ⟨(ws.getD j []).toArray⟩) := by
  simp [List.getD, List.getElem?_eq_getElem hj]
def nums (ws : List (List UInt8)) : List Int := ws.map fun x => (numN x : Int)
theorem nums_length (ws : List (List UInt8)) : (nums ws).length = ws.length := by simp [nums]
theorem nums_step (ws : List (List UInt8)) (k : Nat) (hk : k < ws.length) : (nums ws).take (k + 1) = (nums ws).take k ++ [(numN (ws.getD k []) : Int)] := by
  rw [take_step (by rw [nums_length]; exact hk)]
  congr 2
  simp [nums, List.getD, List.getElem?_eq_getElem hk]
/-- What ReadWeb answers. -/
def readF (l : List UInt8) : List Int × Int := if (sp l).all numB = true then (if okW (nums (sp l)) = true then (nums (sp l), 0) else ([], 5)) else ([], 5)
theorem readF_bad {l : List UInt8} {k : Nat} (hk : k < (sp l).length) (h : numB ((sp l).getD k []) = false) : readF l = ([], 5) := by
  unfold readF
  rw [if_neg]
  intro e
  rw [List.all_eq_true] at e
  have := e ((sp l).getD k []) (by rw [List.getD, List.getElem?_eq_getElem hk]; exact List.getElem_mem hk)
  rw [h] at this
  cases this
theorem all_of {ws : List (List UInt8)} {p : List UInt8 → Bool} (h : ∀ j, j < ws.length → p (ws.getD j []) = true) : ws.all p = true := by
  rw [List.all_eq_true]
  intro x hx
  obtain ⟨j, hj, e⟩ := List.mem_iff_getElem.1 hx
  have := h j hj
  rw [List.getD, List.getElem?_eq_getElem hj, e] at this
  exact this
theorem readF_yes {l : List UInt8} (h : (sp l).all numB = true) (h2 : okW (nums (sp l)) = true) : readF l = (nums (sp l), 0) := by
  unfold readF
  rw [if_pos h, if_pos h2]
theorem readF_inv {l : List UInt8} (h : (sp l).all numB = true) (h2 : okW (nums (sp l)) = false) : readF l = ([], 5) := by
  unfold readF
  rw [if_pos h, if_neg (by rw [h2]; simp)]
theorem readF_len (l : List UInt8) : (readF l).1.length ≤ 2097152 := by
  unfold readF
  split
  · split
    · rename_i h
      have := okW_len h
      show (nums (sp l)).length ≤ _
      omega
    · simp
  · simp
theorem sp_length : ∀ l : List UInt8, (sp l).length ≤ l.length + 1
  | [] => by simp [sp]
  | c :: cs => by
    have ih := sp_length cs
    rw [sp]
    split
    · simp
      exact ih
    · obtain ⟨w, ws, e⟩ := sp_cons cs
      rw [e] at ih ⊢
      simp at ih ⊢
      omega
theorem join_long : ∀ ws : List (List UInt8), ws ≠ [] → (∀ x ∈ ws, x ≠ []) → 2 * ws.length ≤ (Lib.join ws [32]).length + 1
  | [], h, _ => absurd rfl h
  | [x], _, h => by
    have := List.length_pos_iff.2 (h x (by simp))
    rw [Lib.join_one]
    simp
    omega
  | x :: y :: ws, _, h => by
    have h1 := List.length_pos_iff.2 (h x (by simp))
    have ih := join_long (y :: ws) (by simp) (fun z hz => h z (List.mem_cons_of_mem _ hz))
    rw [join_two, List.length_append]
    simp at ih ⊢
    omega
theorem few_words {l : List UInt8} {p : List UInt8 → Bool} (hp : ∀ x, p x = true → x ≠ []) (h : (sp l).all p = true) : 2 * (sp l).length ≤ l.length + 1 := by
  rw [List.all_eq_true] at h
  have := join_long (sp l) (sp_ne l) (fun x hx => hp x (h x hx))
  rw [join_sp] at this
  exact this
theorem numB_ne (x : List UInt8) (h : numB x = true) : x ≠ [] := by
  intro e
  subst e
  cases h
theorem numN_le (x : List UInt8) : (numN x : Int) ≤ 1000000000 := by
  unfold numN
  cases h : numF x with
  | none => simp
  | some n =>
    have := (numF_small h).1
    simp
    omega
theorem int_one (a : Int) : ∀ u ∈ [Value.int .i64 a], u.oneCell' = true := by intro u hu; simp at hu; subst hu; rfl
end Go.Proofs.YtljnhggblmdlnaaDoor
