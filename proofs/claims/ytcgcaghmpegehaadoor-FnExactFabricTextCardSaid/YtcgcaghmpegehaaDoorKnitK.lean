/-
  No statement is proved here: what the program knits of rows; condition: its errors lie where its text lays them; at most 1048576 rows of at most 1048576 bytes.
-/
import Derived.Test.YtcgcaghmpegehaaDoorKnitC
import Derived.Test.YtcgcaghmpegehaaDoorWithin
import Derived.Deep.AppendLies
import Derived.OneCell
import Derived.Laws.OwnMore
namespace Go.Proofs.YtcgcaghmpegehaaDoor
open Go.ChangeShapes Go.WideShapes Go.ChangeAt Go.RowKit

/-- How many loops there are behind the first rows. -/
def wdsTo (c : Int) (L : List ByteArray) (k : Nat) : List Int := (List.range k).map (wd c L)
theorem wdsTo_length (c : Int) (L : List ByteArray) (k : Nat) : (wdsTo c L k).length = k := by simp [wdsTo]
theorem wdsTo_succ (c : Int) (L : List ByteArray) (k : Nat) : wdsTo c L (k + 1) = wdsTo c L k ++ [wd c L k] := by simp [wdsTo, List.range_succ]
theorem wdsTo_get (c : Int) (L : List ByteArray) (k j : Nat) (h : j < k) : (wdsTo c L k).getD j 0 = wd c L j := by simp [wdsTo, List.getD, h]
theorem take_succ (L : List ByteArray) (k : Nat) (hk : k < L.length) : L.take (k + 1) = L.take k ++ [rowAt L k] := by
  rw [List.take_add_one, List.getElem?_eq_getElem hk, rowAt, List.getD, List.getElem?_eq_getElem hk]
  rfl
/-- No piece. -/
def pz : Value := .agg #[.int .i64 0, .slice none 0 0, .slice none 0 0]

theorem castCheck_any (p : Nat → Addr) (c : Int) (w : World) (hs : Sent w p) :
    Calls Tryd.prog 29 #[.int .i64 c] w fun e w' => e = .returned (errIn p (inB c 1 60)) ∧ Below w.heap.size w w' := by
  have HS := Lib.hid hs
  have C := Lib.hid fun b cap wx h h0 => check1_any p b cap c 1 60 wx h h0
  generalize errIn p (inB c 1 60) = r at *
  clear hs
  go_enter Tryd.func29, Tryd.ntmps29
  go_wp2_with fail
  refine (C.out _ _ _ (HS.out.below ((Below.refl _ _).alloc (Nat.le_refl _) _)) (by simp [go_sem])).mono ?_
  rintro e w2 ⟨rfl, hB⟩
  have B2 := Lib.hid (((Below.refl w.heap.size w).alloc (Nat.le_refl _) _).trans (hB.mono (by simp)))
  clear hB
  go_wp2
  go_ret
  exact ⟨rfl, B2.out⟩

theorem grown_al {w w' : World} {o : Obj} {row : Option Nat} (h : (w.alloc o).grownBy w' row) : w.grownBy w' row :=
  ⟨h.os, h.tape, h.output, Nat.le_trans (by simp) h.size, fun k hk hne => (h.block k (by simp; omega) hne).trans (heap_alloc_old w o hk)⟩
theorem below_set {B : Nat} {a w : World} (h : Below B a w) {b o : Nat} (hb : B ≤ b) (u : Value) : Below B a (w.setCell ⟨b, o, none⟩ u) := h.setCell (p := ⟨b, o, none⟩) hb u

/-- What lies in memory while a piece is knitted: the result's box, the piece's box pb, its rows and its widths. -/
def KI (c : Int) (L : List ByteArray) (w wr : World) (pb kr kw : Nat) (rv wv : Value) : Prop :=
  (wr.cell? ⟨pb, 0, none⟩ = some (.int .i64 c) ∧ wr.cell? ⟨pb, 1, none⟩ = some rv ∧ wr.cell? ⟨pb, 2, none⟩ = some wv ∧ ∀ o : Nat, wr.frozen? ⟨pb, o, none⟩ = false) ∧
  (wr.cell? ⟨w.heap.size, 0, none⟩ = some (.int .i64 0) ∧ wr.cell? ⟨w.heap.size, 1, none⟩ = some (.slice none 0 0) ∧ wr.cell? ⟨w.heap.size, 2, none⟩ = some (.slice none 0 0) ∧ ∀ o : Nat, wr.frozen? ⟨w.heap.size, o, none⟩ = false) ∧
  (OwnT wr (w.heap.size + 1) rv (L.take kr) ∧ Own wr (w.heap.size + 1) wv (wdsTo c L kw)) ∧
  (rv.ownBlock ≠ some pb ∧ wv.ownBlock ≠ some pb ∧ ∀ a b, rv.ownBlock = some a → wv.ownBlock = some b → a ≠ b) ∧ Below w.heap.size w wr ∧ (pb < wr.heap.size ∧ w.heap.size < pb)
theorem KI.below {c : Int} {L : List ByteArray} {w wr w' : World} {pb kr kw : Nat} {rv wv : Value} (h : KI c L w wr pb kr kw rv wv) (hB : Below wr.heap.size wr w') : KI c L w w' pb kr kw rv wv := by
  obtain ⟨⟨a0, a1, a2, a3⟩, ⟨b0, b1, b2, b3⟩, ⟨o1, o2⟩, n, hb, l1, l2⟩ := h
  exact ⟨⟨kept hB l1 a0, kept hB l1 a1, kept hB l1 a2, fun o => (hB.frozen (p := ⟨pb, o, none⟩) l1).trans (a3 o)⟩, ⟨kept hB (by omega) b0, kept hB (by omega) b1, kept hB (by omega) b2, fun o => (hB.frozen (p := ⟨w.heap.size, o, none⟩) (by show w.heap.size < _; omega)).trans (b3 o)⟩,
    ⟨o1.below hB, o2.below hB⟩, n, hb.trans (hB.mono hb.size), Nat.lt_of_lt_of_le l1 hB.size, l2⟩
theorem KI.start {c : Int} {L : List ByteArray} {w w1 : World} (t t' : TypeId) (hB : Below (w.heap.size + 1) (w.alloc (.cells #[.int .i64 0, .slice none 0 0, .slice none 0 0] t)) w1) :
    KI c L w ((w1.alloc (.cells #[.int .i64 c] 2)).alloc (.cells #[.int .i64 c, .slice none 0 0, .slice (some ⟨w1.heap.size, 0, none⟩) 1 1] t')) (w1.heap.size + 1) 0 1 (.slice none 0 0) (.slice (some ⟨w1.heap.size, 0, none⟩) 1 1) := by
  have hs' : (w.alloc (.cells #[.int .i64 0, .slice none 0 0, .slice none 0 0] t)).heap.size = w.heap.size + 1 := by simp
  have hs := hB.size
  have B1 : Below (w1.alloc (.cells #[.int .i64 c] 2)).heap.size (w1.alloc (.cells #[.int .i64 c] 2)) ((w1.alloc (.cells #[.int .i64 c] 2)).alloc (.cells #[.int .i64 c, .slice none 0 0, .slice (some ⟨w1.heap.size, 0, none⟩) 1 1] t')) := (Below.refl _ _).alloc (Nat.le_refl _) _
  have B2 : Below (w.heap.size + 1) (w.alloc (.cells #[.int .i64 0, .slice none 0 0, .slice none 0 0] t)) ((w1.alloc (.cells #[.int .i64 c] 2)).alloc (.cells #[.int .i64 c, .slice none 0 0, .slice (some ⟨w1.heap.size, 0, none⟩) 1 1] t')) :=
    (hB.alloc (by omega) _).alloc (by simp; omega) _
  refine ⟨⟨by simp [go_sem], by simp [go_sem], by simp [go_sem], fun o => by simp [go_sem]⟩, ⟨?_, ?_, ?_, ?_⟩, ⟨?_, ?_⟩, ⟨by simp [Value.ownBlock], by simp [Value.ownBlock], fun a b h => by simp [Value.ownBlock] at h⟩, ?_, by simp, by omega⟩
  · exact (B2.cell (p := ⟨w.heap.size, 0, none⟩) (by show w.heap.size < _; omega)).trans (by simp [go_sem])
  · exact (B2.cell (p := ⟨w.heap.size, 1, none⟩) (by show w.heap.size < _; omega)).trans (by simp [go_sem])
  · exact (B2.cell (p := ⟨w.heap.size, 2, none⟩) (by show w.heap.size < _; omega)).trans (by simp [go_sem])
  · intro o
    exact (B2.frozen (p := ⟨w.heap.size, o, none⟩) (by show w.heap.size < _; omega)).trans (by simp [go_sem])
  · exact World.ownsRow_nil _ _ _ _
  · have h0 : Own (w1.alloc (.cells #[.int .i64 c] 2)) (w.heap.size + 1) (.slice (some ⟨w1.heap.size, 0, none⟩) 1 1) (wdsTo c L 1) := World.ownsRow_lit w1 #[.int .i64 c] 1 (by omega) (by decide) rfl
    exact h0.below B1
  · exact ((Below.refl w.heap.size w).alloc (Nat.le_refl _) _).trans (B2.mono (by omega))
/-- The rows have grown. -/
theorem KI.row {c : Int} {L : List ByteArray} {w wr w3 : World} {pb kr kw g cap m : Nat} {o : Obj} {rv wv : Value} (h : KI c L w wr pb kr kw rv wv) (ho : OwnT w3 (w.heap.size + 1) (.slice (some ⟨g, 0, none⟩) m cap) (L.take (kr + 1)))
    (hg : (wr.alloc o).grownBy w3 rv.ownBlock) (hat : rv.ownBlock = some g ∨ g = wr.heap.size + 1) : KI c L w (w3.setCell ⟨pb, 1, none⟩ (.slice (some ⟨g, 0, none⟩) m cap)) pb (kr + 1) kw (.slice (some ⟨g, 0, none⟩) m cap) wv := by
  obtain ⟨⟨a0, a1, a2, a3⟩, ⟨b0, b1, b2, b3⟩, ⟨o1, o2⟩, ⟨n1, n2, n3⟩, hb, l1, l2⟩ := h
  have hgn := grown_al hg
  have e0 : (Value.slice (some ⟨g, 0, none⟩) m cap).ownBlock = some g := rfl
  have hr := o1.lt
  have hw := o2.lt
  have hsz := hgn.size
  have hne : some pb ≠ rv.ownBlock := fun e => n1 e.symm
  have hne2 : some w.heap.size ≠ rv.ownBlock := fun e => by have := (hr _ e.symm).1; omega
  have hgpb : g ≠ pb := by
    rcases hat with e | e
    · exact fun e2 => n1 (by rw [e, e2])
    · omega
  have a0' := (hgn.cell_far ⟨pb, 0, none⟩ l1 hne).trans a0
  have a1' := (hgn.cell_far ⟨pb, 1, none⟩ l1 hne).trans a1
  have a2' := (hgn.cell_far ⟨pb, 2, none⟩ l1 hne).trans a2
  have b0' := (hgn.cell_far ⟨w.heap.size, 0, none⟩ (by show w.heap.size < _; omega) hne2).trans b0
  have b1' := (hgn.cell_far ⟨w.heap.size, 1, none⟩ (by show w.heap.size < _; omega) hne2).trans b1
  have b2' := (hgn.cell_far ⟨w.heap.size, 2, none⟩ (by show w.heap.size < _; omega) hne2).trans b2
  refine ⟨⟨?_, ?_, ?_, fun o => ?_⟩, ⟨?_, ?_, ?_, fun o => ?_⟩, ⟨?_, ?_⟩, ⟨?_, n2, ?_⟩, ?_, ?_, l2⟩
  · exact (World.cell?_setCell_other _ _ _ _ (by simp)).trans a0'
  · exact World.cell?_setCell_same _ _ _ a1'
  · exact (World.cell?_setCell_other _ _ _ _ (by simp)).trans a2'
  · rw [World.frozen?_setCell]
    exact (hgn.frozen_far ⟨pb, o, none⟩ l1 hne).trans (a3 o)
  · exact (World.cell?_setCell_other _ _ _ _ (by first | (simp; done) | (simp; omega))).trans b0'
  · exact (World.cell?_setCell_other _ _ _ _ (by first | (simp; done) | (simp; omega))).trans b1'
  · exact (World.cell?_setCell_other _ _ _ _ (by first | (simp; done) | (simp; omega))).trans b2'
  · rw [World.frozen?_setCell]
    exact (hgn.frozen_far ⟨w.heap.size, o, none⟩ (by show w.heap.size < _; omega) hne2).trans (b3 o)
  · exact ownsRow_setCell_other ho (by rw [e0]; simp; exact hgpb) _
  · refine ownsRow_setCell_other (o2.kept hgn ?_) n2 _
    cases e2 : wv.ownBlock with
    | none => exact .inl rfl
    | some b => exact .inr fun e => n3 b b e.symm e2 rfl
  · rw [e0]
    exact fun e => hgpb (Option.some.inj e)
  · intro a b ha hb2
    rw [e0] at ha
    have := Option.some.inj ha
    subst this
    rcases hat with e | e
    · exact n3 _ _ e hb2
    · have := (hw _ hb2).2
      omega
  · refine below_set ?_ (by omega) _
    exact hb.trans ((below_of_grownT o1 hgn (Nat.le_succ _) hb.size))
  · show pb < (w3.setCell _ _).heap.size
    simp
    omega
/-- The widths have grown. -/
theorem KI.wid {c : Int} {L : List ByteArray} {w wr w3 : World} {pb kr kw g cap m : Nat} {o : Obj} {rv wv : Value} (h : KI c L w wr pb kr kw rv wv) (ho : Own w3 (w.heap.size + 1) (.slice (some ⟨g, 0, none⟩) m cap) (wdsTo c L (kw + 1)))
    (hg : (wr.alloc o).grownBy w3 wv.ownBlock) (hat : wv.ownBlock = some g ∨ g = wr.heap.size + 1) : KI c L w (w3.setCell ⟨pb, 2, none⟩ (.slice (some ⟨g, 0, none⟩) m cap)) pb kr (kw + 1) rv (.slice (some ⟨g, 0, none⟩) m cap) := by
  obtain ⟨⟨a0, a1, a2, a3⟩, ⟨b0, b1, b2, b3⟩, ⟨o1, o2⟩, ⟨n1, n2, n3⟩, hb, l1, l2⟩ := h
  have hgn := grown_al hg
  have e0 : (Value.slice (some ⟨g, 0, none⟩) m cap).ownBlock = some g := rfl
  have hr := o1.lt
  have hw := o2.lt
  have hsz := hgn.size
  have hne : some pb ≠ wv.ownBlock := fun e => n2 e.symm
  have hne2 : some w.heap.size ≠ wv.ownBlock := fun e => by have := (hw _ e.symm).1; omega
  have hgpb : g ≠ pb := by
    rcases hat with e | e
    · exact fun e2 => n2 (by rw [e, e2])
    · omega
  have a0' := (hgn.cell_far ⟨pb, 0, none⟩ l1 hne).trans a0
  have a1' := (hgn.cell_far ⟨pb, 1, none⟩ l1 hne).trans a1
  have a2' := (hgn.cell_far ⟨pb, 2, none⟩ l1 hne).trans a2
  have b0' := (hgn.cell_far ⟨w.heap.size, 0, none⟩ (by show w.heap.size < _; omega) hne2).trans b0
  have b1' := (hgn.cell_far ⟨w.heap.size, 1, none⟩ (by show w.heap.size < _; omega) hne2).trans b1
  have b2' := (hgn.cell_far ⟨w.heap.size, 2, none⟩ (by show w.heap.size < _; omega) hne2).trans b2
  refine ⟨⟨?_, ?_, ?_, fun o => ?_⟩, ⟨?_, ?_, ?_, fun o => ?_⟩, ⟨?_, ?_⟩, ⟨n1, ?_, ?_⟩, ?_, ?_, l2⟩
  · exact (World.cell?_setCell_other _ _ _ _ (by simp)).trans a0'
  · exact (World.cell?_setCell_other _ _ _ _ (by simp)).trans a1'
  · exact World.cell?_setCell_same _ _ _ a2'
  · rw [World.frozen?_setCell]
    exact (hgn.frozen_far ⟨pb, o, none⟩ l1 hne).trans (a3 o)
  · exact (World.cell?_setCell_other _ _ _ _ (by first | (simp; done) | (simp; omega))).trans b0'
  · exact (World.cell?_setCell_other _ _ _ _ (by first | (simp; done) | (simp; omega))).trans b1'
  · exact (World.cell?_setCell_other _ _ _ _ (by first | (simp; done) | (simp; omega))).trans b2'
  · rw [World.frozen?_setCell]
    exact (hgn.frozen_far ⟨w.heap.size, o, none⟩ (by show w.heap.size < _; omega) hne2).trans (b3 o)
  · refine ownsRow_setCell_other (o1.kept hgn ?_) n1 _
    cases e2 : rv.ownBlock with
    | none => exact .inl rfl
    | some b => exact .inr fun e => n3 b b e2 e.symm rfl
  · exact ownsRow_setCell_other ho (by rw [e0]; simp; exact hgpb) _
  · rw [e0]
    exact fun e => hgpb (Option.some.inj e)
  · intro a b ha hb2
    rw [e0] at hb2
    have := Option.some.inj hb2
    subst this
    rcases hat with e | e
    · exact n3 _ _ ha e
    · have := (hr _ ha).2
      omega
  · refine below_set ?_ (by omega) _
    exact hb.trans ((below_of_grown o2 hgn (Nat.le_succ _) hb.size))
  · show pb < (w3.setCell _ _).heap.size
    simp
    omega
end Go.Proofs.YtcgcaghmpegehaaDoor
