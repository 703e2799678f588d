/-
  No statement is proved here: slices of texts, that came in or that the call itself made; no condition.
-/
import Derived.Test.YtcgcaghmpegehaaDoorBase
import Derived.SliceStrings
import Derived.Lib.SmallJoins
namespace Go.Proofs.YtcgcaghmpegehaaDoor
open Go.ChangeShapes Go.WideShapes Go.ChangeAt Go.RowKit


theorem tl_beq (a b : ByteArray) : (a.toList == b.toList) = decide (a = b) := by
  rw [Bool.eq_iff_iff]
  simp only [beq_iff_eq, decide_eq_true_eq]
  constructor
  · intro h
    rw [ByteArray.toList_eq, ByteArray.toList_eq] at h
    cases a
    cases b
    simp at h
    rw [h]
  · rintro rfl
    rfl
theorem tl_same (a : ByteArray) : (a.toList == a.toList) = true := by simp

/-- A slice of texts: what its cells hold. -/
def Strs (w : World) (v : Value) (zs : List ByteArray) : Prop :=
  (∃ a cap, v = .slice a 0 cap ∧ zs = []) ∨
  ∃ b off cap, v = .slice (some ⟨b, off, none⟩) zs.length cap ∧ 0 < zs.length ∧ b < w.heap.size ∧ ∀ j, j < zs.length → w.cell? ⟨b, off + j, none⟩ = some (.string (zs.getD j ByteArray.empty))
theorem Strs.below {w w' : World} {v : Value} {zs : List ByteArray} (h : Strs w v zs) (hB : Below w.heap.size w w') : Strs w' v zs := by
  rcases h with h | ⟨b, off, cap, rfl, h0, hb, hc⟩
  · exact .inl h
  · exact .inr ⟨b, off, cap, rfl, h0, Nat.lt_of_lt_of_le hb hB.size, fun j hj => (hB.cell (p := ⟨b, off + j, none⟩) hb).trans (hc j hj)⟩
/-- A slice of texts that the call itself has made, from block base on. -/
def OwnT (w : World) (base : Nat) (v : Value) (zs : List ByteArray) : Prop := w.ownsRow base 9 1 v zs.length (zs.map (Value.string))
theorem OwnT.row {w : World} {base : Nat} {v : Value} {zs : List ByteArray} (h : OwnT w base v zs) : w.ownsRow base 9 1 v zs.length (zs.map (Value.string)) := h
theorem cellT {zs : List ByteArray} {j : Nat} (hj : j < zs.length) : (zs.map (Value.string))[j]? = some (.string (zs.getD j ByteArray.empty)) := by
  simp [List.getD, List.getElem?_eq_getElem hj]
theorem OwnT.block {w : World} {base : Nat} {v : Value} {zs : List ByteArray} (h : OwnT w base v zs) :
    (zs = [] ∧ v = .slice none 0 0) ∨ ∃ g cap, v = .slice (some ⟨g, 0, none⟩) zs.length cap ∧ base ≤ g ∧ g < w.heap.size ∧ v.ownBlock = some g ∧ (∀ j, j < zs.length → w.cell? ⟨g, j, none⟩ = some (.string (zs.getD j ByteArray.empty))) ∧ ∀ j : Nat, w.frozen? ⟨g, j, none⟩ = false := by
  rcases h.2 with ⟨rfl, hn⟩ | ⟨g, cap, cur, rfl, hb, hg, _⟩
  · exact .inl ⟨List.length_eq_zero_iff.1 hn, rfl⟩
  · exact .inr ⟨g, cap, rfl, hb, lt_of_block hg, rfl, fun j hj => (h.row.cellAt j (by omega)).trans (cellT hj), fun j => h.row.frozenAt j⟩
theorem OwnT.strs {w : World} {base : Nat} {v : Value} {zs : List ByteArray} (h : OwnT w base v zs) : Strs w v zs := by
  rcases h.block with ⟨rfl, rfl⟩ | ⟨g, cap, rfl, _, hg, _, hc, _⟩
  · exact .inl ⟨_, _, rfl, rfl⟩
  · by_cases h0 : zs = []
    · subst h0
      exact .inl ⟨_, _, rfl, rfl⟩
    · exact .inr ⟨g, 0, cap, rfl, List.length_pos_iff.2 h0, hg, fun j hj => by rw [Nat.zero_add]; exact hc j hj⟩
theorem OwnT.lt {w : World} {base : Nat} {v : Value} {zs : List ByteArray} (h : OwnT w base v zs) : ∀ k, v.ownBlock = some k → base ≤ k ∧ k < w.heap.size := World.ownsRow.lt h.row
theorem OwnT.mono {w : World} {base base' : Nat} {v : Value} {zs : List ByteArray} (h : OwnT w base v zs) (hb : base' ≤ base) : OwnT w base' v zs := by
  refine ⟨h.1, ?_⟩
  rcases h.2 with h2 | ⟨g, cap, cur, hv, hg, r⟩
  · exact .inl h2
  · exact .inr ⟨g, cap, cur, hv, Nat.le_trans hb hg, r⟩
theorem OwnT.kept {w w' : World} {base : Nat} {v : Value} {zs : List ByteArray} {row : Option Nat} (h : OwnT w base v zs) (hg : w.grownBy w' row) (hne : v.ownBlock = none ∨ v.ownBlock ≠ row) : OwnT w' base v zs := World.ownsRow.kept h.row hg hne
theorem OwnT.below {w w' : World} {base : Nat} {v : Value} {zs : List ByteArray} (h : OwnT w base v zs) (hB : Below w.heap.size w w') : OwnT w' base v zs := by
  refine ⟨h.1, ?_⟩
  rcases h.2 with h2 | ⟨g, cap, cur, hv, hg, hh, r⟩
  · exact .inl h2
  · exact .inr ⟨g, cap, cur, hv, hg, by rw [hB.block g (lt_of_block hh)]; exact hh, r⟩
/-- What lies from base on is no block of what was there. -/
theorem OwnT.apart {w w' : World} {b1 b2 : Nat} {v1 v2 : Value} {z1 z2 : List ByteArray} (h1 : OwnT w b1 v1 z1) (h2 : OwnT w' b2 v2 z2) (hle : w.heap.size ≤ b2) : v2.ownBlock = none ∨ v2.ownBlock ≠ v1.ownBlock := by
  cases e2 : v2.ownBlock with
  | none => exact .inl rfl
  | some k =>
    refine .inr fun e => ?_
    have := (h2.lt k e2).1
    have := (h1.lt k e.symm).2
    omega
theorem OwnT.apart' {w w' : World} {b1 b2 : Nat} {v1 v2 : Value} {z1 z2 : List ByteArray} (h1 : OwnT w b1 v1 z1) (h2 : OwnT w' b2 v2 z2) (hle : w.heap.size ≤ b2) : v1.ownBlock = none ∨ v1.ownBlock ≠ v2.ownBlock := by
  cases e2 : v1.ownBlock with
  | none => exact .inl rfl
  | some k =>
    refine .inr fun e => ?_
    have := (h2.lt k e.symm).1
    have := (h1.lt k e2).2
    omega
theorem Strs.grown {w w' : World} {base : Nat} {v v0 : Value} {zs z0 : List ByteArray} (h : Strs w v zs) (h0 : OwnT w' base v0 z0) (hle : w.heap.size ≤ base) {w'' : World} (hB : Below w.heap.size w w') (hg : w'.grownBy w'' v0.ownBlock) : Strs w'' v zs := by
  rcases h with h | ⟨b, off, cap, rfl, hl, hb, hc⟩
  · exact .inl h
  · have hs := hB.size
    have hbk : w''.heap[b]? = w'.heap[b]? := hg.block b (by omega) fun e => by
      have := (h0.lt b e.symm).1
      omega
    refine .inr ⟨b, off, cap, rfl, hl, ?_, fun j hj => ?_⟩
    · have := hg.size
      omega
    · exact (World.cell?_of_block (w := w') (a := ⟨b, off + j, none⟩) hbk).trans ((hB.cell (p := ⟨b, off + j, none⟩) hb).trans (hc j hj))
theorem below_of_grownT {w w' : World} {base : Nat} {v : Value} {zs : List ByteArray} {B : Nat} (h : OwnT w base v zs) (hg : w.grownBy w' v.ownBlock) (hle : B ≤ base) (hs : B ≤ w.heap.size) : Below B w w' :=
  (Below.refl _ _).grown hg hs fun k hk => Nat.le_trans hle (h.lt k hk).1

set_option maxRecDepth 1000000 in
theorem infoStr : (Tryd.prog.info? 9).map (fun i => (i.zero, i.size, i.bytes)) = some (some (.string ByteArray.empty), 1, 16) := by kernel_rfl
/-- The first k texts, and empty ones behind them. -/
def fillT (zs : List ByteArray) (k : Nat) : List ByteArray := zs.take k ++ List.replicate (zs.length - k) ByteArray.empty
theorem fillT_length (zs : List ByteArray) (k : Nat) (hk : k ≤ zs.length) : (fillT zs k).length = zs.length := by simp [fillT]; omega
theorem fillT_all (zs : List ByteArray) : fillT zs zs.length = zs := by simp [fillT]
theorem fillT_zero (zs : List ByteArray) : fillT zs 0 = List.replicate zs.length ByteArray.empty := by simp [fillT]
theorem fillT_step (zs : List ByteArray) (k : Nat) (hk : k < zs.length) : (fillT zs k).set k (zs.getD k ByteArray.empty) = fillT zs (k + 1) := by
  have e1 : (zs.take k).length = k := by rw [List.length_take]; omega
  have e2 : zs.length - k = (zs.length - (k + 1)) + 1 := by omega
  have e3 : zs.take (k + 1) = zs.take k ++ [zs.getD k ByteArray.empty] := by
    rw [List.take_add_one, List.getElem?_eq_getElem hk, List.getD, List.getElem?_eq_getElem hk]
    rfl
  rw [fillT, fillT, List.set_append, if_neg (by omega), e1, Nat.sub_self, e2, List.replicate_succ, List.set_cons_zero, e3, List.append_assoc]
  rfl
theorem Strs.nil {w : World} {v : Value} (h : Strs w v []) : ∃ a cap, v = .slice a 0 cap := by
  rcases h with ⟨a, cap, rfl, _⟩ | ⟨b, off, cap, rfl, h0, _⟩
  · exact ⟨_, _, rfl⟩
  · simp at h0
theorem Strs.len {w : World} {v : Value} {zs : List ByteArray} (h : Strs w v zs) : ∃ a cap, v = .slice a zs.length cap := by
  rcases h with ⟨a, cap, rfl, rfl⟩ | ⟨b, off, cap, rfl, h0, _⟩
  · exact ⟨_, _, rfl⟩
  · exact ⟨_, _, rfl⟩
theorem Strs.pos {w : World} {v : Value} {zs : List ByteArray} (h : Strs w v zs) (h0 : 0 < zs.length) : ∃ b off cap, v = .slice (some ⟨b, off, none⟩) zs.length cap ∧ ∀ j, j < zs.length → w.cell? ⟨b, off + j, none⟩ = some (.string (zs.getD j ByteArray.empty)) := by
  rcases h with ⟨a, cap, rfl, rfl⟩ | ⟨b, off, cap, rfl, h0, _, hc⟩
  · simp at h0
  · exact ⟨b, off, cap, rfl, hc⟩
theorem eqT_of_all {xs ys : List ByteArray} (hl : xs.length = ys.length) (h : ∀ j, j < xs.length → xs.getD j ByteArray.empty = ys.getD j ByteArray.empty) : xs = ys := by
  apply List.ext_getElem hl
  intro j h1 h2
  have := h j h1
  simpa [List.getD, List.getElem?_eq_getElem h1, List.getElem?_eq_getElem h2] using this
end Go.Proofs.YtcgcaghmpegehaaDoor
