/-
  No statement is proved here: what ReadWeb answers in the program; conditions: at most 1048576 bytes, the library's variables hold what they should.
-/
import Derived.Test.YtljnhggblmdlnaaDoorReadDefs
import Derived.Test.YtljnhggblmdlnaaDoorTextImpl
import Derived.Test.YtljnhggblmdlnaaDoorShelfR
import Derived.Lib.AtoiErrMem
namespace Go.Proofs.YtljnhggblmdlnaaDoor
open Go.ChangeShapes Go.WideShapes Go.ChangeAt Go.RowKit

/-- What ParseInt makes of a text. -/
def valP (x : List UInt8) : Int := match Lib.parseIntB 64 x with | .ok v => v | _ => 0
def okP (x : List UInt8) : Bool := match Lib.parseIntB 64 x with | .ok _ => true | _ => false
def vals (ws : List (List UInt8)) : List Int := ws.map valP
theorem vals_length (ws : List (List UInt8)) : (vals ws).length = ws.length := by simp [vals]
theorem vals_step (ws : List (List UInt8)) (k : Nat) (hk : k < ws.length) : (vals ws).take (k + 1) = (vals ws).take k ++ [valP (ws.getD k [])] := by
  rw [take_step (by rw [vals_length]; exact hk)]
  congr 2
  simp [vals, List.getD, List.getElem?_eq_getElem hk]
theorem okP_of_numB {x : List UInt8} (h : numB x = true) : okP x = true ∧ valP x = (numN x : Int) := by
  unfold numB at h
  cases hf : numF x with
  | none => rw [hf] at h; cases h
  | some n =>
    have := num_parse hf
    rw [okP, valP, this, numN, hf]
    exact ⟨rfl, rfl⟩
theorem okP_ne (x : List UInt8) (h : okP x = true) : x ≠ [] := by
  intro e
  subst e
  cases h
/-- What ReadWeb answers in the program. -/
def readI (l : List UInt8) : List Int × Int := if (sp l).all okP = true then (if okW (vals (sp l)) = true then (if txtTo (vals (sp l)) (vals (sp l)).length = l then (vals (sp l), 0) else ([], 5)) else ([], 5)) else ([], 5)
theorem readI_bad {l : List UInt8} {k : Nat} (hk : k < (sp l).length) (h : okP ((sp l).getD k []) = false) : readI l = ([], 5) := by
  unfold readI
  rw [if_neg]
  intro e
  rw [List.all_eq_true] at e
  have := e ((sp l).getD k []) (by rw [List.getD, List.getElem?_eq_getElem hk]; exact List.getElem_mem hk)
  rw [h] at this
  cases this
theorem readI_inv {l : List UInt8} (h : (sp l).all okP = true) (h2 : okW (vals (sp l)) = false) : readI l = ([], 5) := by
  unfold readI
  rw [if_pos h, if_neg (by rw [h2]; simp)]
theorem readI_other {l : List UInt8} (h : (sp l).all okP = true) (h2 : okW (vals (sp l)) = true) (h3 : txtTo (vals (sp l)) (vals (sp l)).length ≠ l) : readI l = ([], 5) := by
  unfold readI
  rw [if_pos h, if_pos h2, if_neg h3]
theorem readI_yes {l : List UInt8} (h : (sp l).all okP = true) (h2 : okW (vals (sp l)) = true) (h3 : txtTo (vals (sp l)) (vals (sp l)).length = l) : readI l = (vals (sp l), 0) := by
  unfold readI
  rw [if_pos h, if_pos h2, if_pos h3]
theorem sp_txt {zs : List Int} (hok : okW zs = true) : sp (txtTo zs zs.length) = zs.map fun y => Lib.decDigits y.toNat := by
  have hl := okW_len hok
  rw [txt_join (by omega)]
  refine sp_join _ ?_ ?_
  · intro e
    have := congrArg List.length e
    rw [List.length_map, List.length_nil] at this
    omega
  · intro x hx
    obtain ⟨y, _, rfl⟩ := List.mem_map.1 hx
    exact dec_blank _
theorem read_same (l : List UInt8) : readI l = readF l := by
  unfold readI readF
  by_cases hB : (sp l).all numB = true
  · have hv : vals (sp l) = nums (sp l) := by
      refine List.map_congr_left fun x hx => ?_
      exact (okP_of_numB (List.all_eq_true.1 hB x hx)).2
    have hP : (sp l).all okP = true := List.all_eq_true.2 fun x hx => (okP_of_numB (List.all_eq_true.1 hB x hx)).1
    rw [if_pos hP, if_pos hB, hv]
    by_cases hok : okW (nums (sp l)) = true
    · rw [if_pos hok, if_pos hok, if_pos]
      have hl := okW_len hok
      rw [txt_join (by omega)]
      have e : ((nums (sp l)).map fun y => Lib.decDigits y.toNat) = sp l := by
        rw [nums, List.map_map]
        conv => rhs; rw [← List.map_id (sp l)]
        refine List.map_congr_left fun x hx => ?_
        have hb := List.all_eq_true.1 hB x hx
        unfold numB at hb
        cases hf : numF x with
        | none => rw [hf] at hb; cases hb
        | some n =>
          show Lib.decDigits (numN x : Int).toNat = x
          rw [numN, hf]
          exact (num_is hf).symm
      rw [e, join_sp]
    · rw [if_neg hok, if_neg hok]
  · rw [if_neg hB]
    by_cases hP : (sp l).all okP = true
    · rw [if_pos hP]
      by_cases hok : okW (vals (sp l)) = true
      · rw [if_pos hok, if_neg]
        intro e
        apply hB
        rw [List.all_eq_true]
        intro x hx
        have e2 := sp_txt hok
        rw [e] at e2
        rw [e2] at hx
        obtain ⟨y, hy, rfl⟩ := List.mem_map.1 hx
        obtain ⟨k, hk, ek⟩ := List.mem_iff_getElem.1 hy
        have hb := okW_get hok k hk
        rw [List.getD, List.getElem?_eq_getElem hk, Option.getD_some, ek] at hb
        rw [numB, num_dec (by omega)]
        rfl
      · rw [if_neg hok]
    · rw [if_neg hP]
end Go.Proofs.YtljnhggblmdlnaaDoor
