/-
  No statement is proved here: a heap parted into several ones, as numbers; no condition.
-/
import Derived.Test.YtekejhnhkifcfaaHp
import Derived.Test.YtekejhnhkifcfaaPut8
import Derived.Test.YtekejhnhkifcfaaHeapX
namespace Go.Proofs.Ytekejhnhkifcfaa
open Go.RowKit

/-- What the heap k gets of each length. -/
def partH (z : Nat → Int) (h : Int) (k : Nat) (i : Nat) : Int := z i / h + if (k : Int) < z i % h then 1 else 0
theorem partH_bd {z : Nat → Int} {h : Int} (hok : okH z = true) (h1 : 1 ≤ h) (k : Nat) {i : Nat} (hi : i < 8) : 0 ≤ partH z h k i ∧ partH z h k i ≤ 1001 := by
  have b := okH_of hok i hi
  have q0 := Int.ediv_nonneg b.1 (show 0 ≤ h by omega)
  have q1 := Int.ediv_le_self h b.1
  unfold partH
  split <;> omega
def partL (z : Nat → Int) (h : Int) : List (Nat → Int) := (List.range h.toNat).map (partH z h)
theorem partL_length (z : Nat → Int) (h : Int) : (partL z h).length = h.toNat := by simp [partL]
theorem partL_take (z : Nat → Int) (h : Int) {k : Nat} (hk : k < h.toNat) : (partL z h).take (k + 1) = (partL z h).take k ++ [partH z h k] := by
  rw [List.take_add_one]
  congr 1
  unfold partL
  simp [hk]
def fineP (h : Int) : Bool := inB h 1 20
/-- What PartHeap answers. -/
def partF (z : Nat → Int) (h : Int) : List (Nat → Int) × Int := if askC (okH z) (fineP h) = 0 then (partL z h, 0) else ([], askC (okH z) (fineP h))
theorem partF_len (z : Nat → Int) (h : Int) : (partF z h).1.length ≤ 20 := by
  unfold partF
  by_cases ha : askC (okH z) (fineP h) = 0
  · rw [if_pos ha, partL_length]
    have : fineP h = true := by
      cases hb : fineP h with
      | true => rfl
      | false =>
        rw [hb] at ha
        unfold askC at ha
        split at ha <;> simp at ha
    have := inB_of this
    omega
  · rw [if_neg ha]; simp
/-- A part's box when some lengths have been written. -/
def fillH (f : Nat → Int) (j i : Nat) : Int := if i < j then f i else 0
end Go.Proofs.Ytekejhnhkifcfaa
