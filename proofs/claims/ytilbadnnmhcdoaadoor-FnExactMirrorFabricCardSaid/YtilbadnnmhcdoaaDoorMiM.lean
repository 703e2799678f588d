/-
  No statement is proved here: rows with left and right exchanged, and the boxes in which a fabric grows; no condition.
-/
import Derived.Test.YtilbadnnmhcdoaaDoorBy
import Derived.Test.YtilbadnnmhcdoaaDoorFbO
namespace Go.Proofs.YtilbadnnmhcdoaaDoor
open Go.ChangeShapes Go.WideShapes Go.ChangeAt Go.RowKit

def revL (s : ByteArray) (t : Nat) : List Int := (List.range t).map fun j => (chAt s (s.size - 1 - j) : Int)
theorem revL_len (s : ByteArray) (t : Nat) : (revL s t).length = t := by simp [revL]
theorem revL_succ (s : ByteArray) (t : Nat) : revL s (t + 1) = revL s t ++ [(chAt s (s.size - 1 - t) : Int)] := by simp [revL, List.range_succ]
theorem revL_get (s : ByteArray) {t j : Nat} (h : j < t) : (revL s t).getD j 0 = (chAt s (s.size - 1 - j) : Int) := by simp [revL, List.getD, h]
def revT (s : ByteArray) : ByteArray := txB (revL s s.size)
def mirF (c : Int) (L : List ByteArray) : (Int × List ByteArray) × Int := if okF c L = true then ((c, L.map revT), 0) else ((0, []), 1)
theorem mirF_yes {c : Int} {L : List ByteArray} (h : okF c L = true) : mirF c L = ((c, L.map revT), 0) := if_pos h
theorem mirF_no {c : Int} {L : List ByteArray} (h : okF c L = false) : mirF c L = ((0, []), 1) := by unfold mirF; rw [h]; rfl
theorem mirF_len {c : Int} {L : List ByteArray} (hn : L.length ≤ 1048576) : (mirF c L).1.2.length ≤ 1048577 := by
  unfold mirF
  split
  · simp only [List.length_map]; omega
  · simp
theorem mir_take {L : List ByteArray} {i : Nat} (h : i < L.length) : (L.take (i + 1)).map revT = (L.take i).map revT ++ [revT (rowAt L i)] := by
  have e : L.take (i + 1) = L.take i ++ [rowAt L i] := by
    rw [List.take_add_one, List.getElem?_eq_getElem h]
    unfold rowAt
    rw [List.getD, List.getElem?_eq_getElem h]
    rfl
  rw [e, List.map_append]
  rfl
/-- The boxes: the fabric's, the result's, and that of the fabric that grows. -/
def MB (b rb ob : Nat) (c : Int) (v rv : Value) (W : World) : Prop :=
  (W.cell? ⟨b, 0, none⟩ = some (.int .i16 c) ∧ W.cell? ⟨b, 1, none⟩ = some v) ∧ (W.cell? ⟨rb, 0, none⟩ = some (.int .i16 0) ∧ W.cell? ⟨rb, 1, none⟩ = some (.slice none 0 0) ∧ W.frozen? ⟨rb, 0, none⟩ = false ∧ W.frozen? ⟨rb, 1, none⟩ = false) ∧
  (W.cell? ⟨ob, 0, none⟩ = some (.int .i16 c) ∧ W.cell? ⟨ob, 1, none⟩ = some rv ∧ W.frozen? ⟨ob, 1, none⟩ = false) ∧ b < W.heap.size ∧ rb < W.heap.size ∧ ob < W.heap.size
theorem MB.next {b rb ob : Nat} {c : Int} {v rv : Value} {W W' : World} (h : MB b rb ob c v rv W) (hB : Below W.heap.size W W') : MB b rb ob c v rv W' := by
  obtain ⟨⟨h1, h2⟩, ⟨h3, h4, h5, h6⟩, ⟨h7, h8, h9⟩, l1, l2, l3⟩ := h
  exact ⟨⟨kept hB l1 h1, kept hB l1 h2⟩, ⟨kept hB l2 h3, kept hB l2 h4, (hB.frozen (p := ⟨rb, 0, none⟩) l2).trans h5, (hB.frozen (p := ⟨rb, 1, none⟩) l2).trans h6⟩, ⟨kept hB l3 h7, kept hB l3 h8, (hB.frozen (p := ⟨ob, 1, none⟩) l3).trans h9⟩, Nat.lt_of_lt_of_le l1 hB.size, Nat.lt_of_lt_of_le l2 hB.size, Nat.lt_of_lt_of_le l3 hB.size⟩
theorem MB.grown {b rb ob : Nat} {c : Int} {v rv : Value} {W W' : World} {row : Option Nat} (h : MB b rb ob c v rv W) (hg : W.grownBy W' row) (n1 : some b ≠ row) (n2 : some rb ≠ row) (n3 : some ob ≠ row) : MB b rb ob c v rv W' := by
  obtain ⟨⟨h1, h2⟩, ⟨h3, h4, h5, h6⟩, ⟨h7, h8, h9⟩, l1, l2, l3⟩ := h
  exact ⟨⟨(hg.cell_far ⟨b, 0, none⟩ l1 n1).trans h1, (hg.cell_far ⟨b, 1, none⟩ l1 n1).trans h2⟩, ⟨(hg.cell_far ⟨rb, 0, none⟩ l2 n2).trans h3, (hg.cell_far ⟨rb, 1, none⟩ l2 n2).trans h4, (hg.frozen_far ⟨rb, 0, none⟩ l2 n2).trans h5, (hg.frozen_far ⟨rb, 1, none⟩ l2 n2).trans h6⟩,
    ⟨(hg.cell_far ⟨ob, 0, none⟩ l3 n3).trans h7, (hg.cell_far ⟨ob, 1, none⟩ l3 n3).trans h8, (hg.frozen_far ⟨ob, 1, none⟩ l3 n3).trans h9⟩, Nat.lt_of_lt_of_le l1 hg.size, Nat.lt_of_lt_of_le l2 hg.size, Nat.lt_of_lt_of_le l3 hg.size⟩
theorem MB.put {b rb ob : Nat} {c : Int} {v rv : Value} {W : World} (h : MB b rb ob c v rv W) (n1 : b ≠ ob) (n2 : rb ≠ ob) (u : Value) : MB b rb ob c v u (W.setCell ⟨ob, 1, none⟩ u) := by
  obtain ⟨⟨h1, h2⟩, ⟨h3, h4, h5, h6⟩, ⟨h7, h8, h9⟩, l1, l2, l3⟩ := h
  have o1 : ∀ k o : Nat, k ≠ ob → (W.setCell ⟨ob, 1, none⟩ u).cell? ⟨k, o, none⟩ = W.cell? ⟨k, o, none⟩ := fun k o hk => World.cell?_setCell_other _ _ _ _ (by have := hk; simp)
  exact ⟨⟨(o1 b 0 n1).trans h1, (o1 b 1 n1).trans h2⟩, ⟨(o1 rb 0 n2).trans h3, (o1 rb 1 n2).trans h4, by simpa [go_sem] using h5, by simpa [go_sem] using h6⟩, ⟨(World.cell?_setCell_other _ _ _ _ (by simp)).trans h7, World.cell?_setCell_same _ _ _ h8, by simpa [go_sem] using h9⟩, by simpa using l1, by simpa using l2, by simpa using l3⟩
theorem made2 (W : World) (x y : Value) (t : TypeId) : (W.alloc (.cells #[x, y] t)).cell? ⟨W.heap.size, 0, none⟩ = some x ∧ (W.alloc (.cells #[x, y] t)).cell? ⟨W.heap.size, 1, none⟩ = some y ∧ (W.alloc (.cells #[x, y] t)).frozen? ⟨W.heap.size, 1, none⟩ = false := ⟨by simp [go_sem], by simp [go_sem], by simp [go_sem]⟩
theorem grown_trM {a b c : World} {row : Option Nat} (h : a.grownBy b row) (k : b.grownBy c row) : a.grownBy c row :=
  ⟨k.os.trans h.os, k.tape.trans h.tape, k.output.trans h.output, Nat.le_trans h.size k.size, fun i hi hne => (k.block i (Nat.lt_of_lt_of_le hi h.size) hne).trans (h.block i hi hne)⟩
theorem grown_setM (W : World) (b a : Nat) (v : Value) : W.grownBy (W.setCell ⟨b, a, none⟩ v) (some b) :=
  ⟨rfl, rfl, rfl, by simp, fun i _ hne => Below.heap_setCell _ _ _ i (fun e => hne (by rw [e]))⟩
theorem OwnB.kept {w w' : World} {base : Nat} {v : Value} {zs : List Int} {row : Option Nat} (h : OwnB w base v zs) (hg : w.grownBy w' row) (hne : v.ownBlock = none ∨ v.ownBlock ≠ row) : OwnB w' base v zs := World.ownsRow.kept h.row hg hne
theorem byte_one (a : Int) : ∀ u ∈ [Value.int .u8 a], u.oneCell' = true := by intro u hu; simp at hu; subst hu; rfl
theorem str_oneM (a : ByteArray) : ∀ u ∈ [Value.string a], u.oneCell' = true := by intro u hu; simp at hu; subst hu; rfl
theorem apartM {v1 v2 : Value} {B : Nat} (h1 : ∀ k, v1.ownBlock = some k → k < B) (h2 : ∀ k, v2.ownBlock = some k → B ≤ k) : v1.ownBlock = none ∨ v1.ownBlock ≠ v2.ownBlock := by
  cases e1 : v1.ownBlock with
  | none => exact .inl rfl
  | some a =>
    refine .inr fun e => ?_
    have := h1 a e1
    have := h2 a e.symm
    omega
theorem farM {v : Value} {B k : Nat} (h : ∀ j, v.ownBlock = some j → B ≤ j) (hk : k < B) : some k ≠ v.ownBlock := fun e => by have := h k e.symm; omega
end Go.Proofs.YtilbadnnmhcdoaaDoor
