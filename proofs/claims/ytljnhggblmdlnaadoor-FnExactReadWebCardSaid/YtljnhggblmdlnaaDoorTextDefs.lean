/-
  No statement is proved here: the text of a web, as a list of bytes.
-/
import Derived.Test.YtljnhggblmdlnaaDoorWeb
import Derived.Lib.ItoaNum
import Derived.Lib.ItoaLen
import Derived.Lib.Join
import Derived.Laws.Concat
import Derived.IntWalk
namespace Go.Proofs.YtljnhggblmdlnaaDoor
open Go.ChangeShapes Go.WideShapes Go.ChangeAt Go.RowKit


theorem withC {G C : Prop} (h : C) (k : C → G) : G := k h
theorem dec_short (n : Nat) (hn : n ≤ 1000000000) : (Lib.decDigits n).length ≤ 20 := by
  rw [Lib.decDigits_length]
  exact Lib.nDigits_le20 n (by omega)
theorem add_lists (x y : List UInt8) (hx : x.length ≤ 1000000) (hy : y.length ≤ 1000000) (w : World) : (Op.stringOp .add ⟨x.toArray⟩ ⟨y.toArray⟩).run Tryd.prog w = .ok (.string ⟨(x ++ y).toArray⟩) w := by
  rw [run_string_add_sum (P := Tryd.prog) w _ _ (by show x.toArray.size + y.toArray.size ≤ _; simp; omega)]
  rw [ByteArray.mk_append_mk]

/-- The digits of the k-th stripe, and the text of the first k. -/
def dig (zs : List Int) (k : Nat) : List UInt8 := Lib.decDigits (zs.getD k 0).toNat
def txtTo (zs : List Int) : Nat → List UInt8
  | 0 => []
  | k + 1 => if k = 0 then dig zs 0 else (txtTo zs k ++ [32]) ++ dig zs k
theorem txtTo_one (zs : List Int) : txtTo zs 1 = dig zs 0 := rfl
theorem txtTo_step (zs : List Int) (k : Nat) (hk : 0 < k) : txtTo zs (k + 1) = (txtTo zs k ++ [32]) ++ dig zs k := by
  rw [txtTo, if_neg (by omega)]
theorem dig_len {zs : List Int} (hok : okW zs = true) (k : Nat) : (dig zs k).length ≤ 20 := by
  refine dec_short _ ?_
  by_cases h : k < zs.length
  · have := okW_get hok k h
    omega
  · rw [List.getD, List.getElem?_eq_none (by omega)]
    simp
theorem txtTo_len {zs : List Int} (hok : okW zs = true) : ∀ k, (txtTo zs k).length ≤ 21 * k
  | 0 => Nat.le_refl _
  | k + 1 => by
    have h := dig_len hok k
    have h0 := dig_len hok 0
    have ih := txtTo_len hok k
    rw [txtTo]
    split
    · omega
    · simp
      omega
theorem txtTo_join (zs : List Int) (z : Int) (r : List Int) (h : zs = z :: r) : ∀ k, k ≤ r.length → txtTo zs (k + 1) = Lib.decDigits z.toNat ++ Lib.joinTail [32] ((r.map fun y => Lib.decDigits y.toNat).take k)
  | 0, _ => by
    rw [txtTo_one, dig, h]
    simp [Lib.joinTail]
  | k + 1, hk => by
    have ih := txtTo_join zs z r h k (by omega)
    have e : (r.map fun y => Lib.decDigits y.toNat)[k]? = some (dig zs (k + 1)) := by
      rw [List.getElem?_map, List.getElem?_eq_getElem (by omega), dig, h]
      simp [List.getD, List.getElem?_eq_getElem (show k < r.length by omega)]
    rw [txtTo_step zs (k + 1) (by omega), ih, Lib.joinTail_take_succ _ _ _ _ e]
    simp [List.append_assoc]
theorem txt_join {zs : List Int} (h : 0 < zs.length) : txtTo zs zs.length = Lib.join (zs.map fun y => Lib.decDigits y.toNat) [32] := by
  cases zs with
  | nil => simp at h
  | cons z r =>
    have e := txtTo_join (z :: r) z r rfl r.length (Nat.le_refl _)
    rw [List.take_of_length_le (by simp)] at e
    rw [List.map_cons, Lib.join_cons, ← e]
    rfl
/-- What WebText answers. -/
def textF (zs : List Int) : List UInt8 := if okW zs = true then txtTo zs zs.length else []
end Go.Proofs.YtljnhggblmdlnaaDoor
