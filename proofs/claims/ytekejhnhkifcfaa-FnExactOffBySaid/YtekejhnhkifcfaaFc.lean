/-
  No statement is proved here: slices of fractions (structs of small integers), that came in or that the call itself made; no condition.
-/
import Derived.Test.YtekejhnhkifcfaaRec
namespace Go.Proofs.Ytekejhnhkifcfaa
open Go.ChangeShapes Go.WideShapes Go.ChangeAt Go.RowKit

abbrev Fc := Int × Int
def cellsFc (ys : List Fc) : List Value := ys.flatMap fun y => [.int .i64 y.1, .int .i64 y.2]
def atFc (ys : List Fc) (j : Nat) : Fc := ys.getD j (0, 0)
def IsFc (_ : Fc) : Prop := True ∧ True
theorem cellsFc_cons (y : Fc) (ys : List Fc) : cellsFc (y :: ys) = .int .i64 y.1 :: .int .i64 y.2 :: cellsFc ys := rfl
theorem cellsFc_length (ys : List Fc) : (cellsFc ys).length = ys.length * 2 := by
  induction ys with
  | nil => rfl
  | cons y ys ih => rw [cellsFc_cons]; simp only [List.length_cons, ih]; omega
theorem cellsFc_get : ∀ (ys : List Fc) (j : Nat), j < ys.length →
    (cellsFc ys)[j * 2]? = some (.int .i64 (atFc ys j).1) ∧ (cellsFc ys)[j * 2 + 1]? = some (.int .i64 (atFc ys j).2)
  | [], j, h => by simp at h
  | y :: ys, 0, _ => by rw [cellsFc_cons]; exact ⟨rfl, rfl⟩
  | y :: ys, j + 1, h => by
    have ih := cellsFc_get ys j (by simpa using h)
    have e : atFc (y :: ys) (j + 1) = atFc ys j := rfl
    rw [cellsFc_cons, e, show (j + 1) * 2 = j * 2 + 1 + 1 by omega]
    exact ⟨by simpa using ih.1, by simpa using ih.2⟩
/-- What the cells of a slice hold. -/
def Fcs (w : World) (v : Value) (ys : List Fc) : Prop :=
  (∀ j, IsFc (atFc ys j)) ∧ ((∃ a cap, v = .slice a 0 cap ∧ ys = []) ∨
  ∃ b off cap, v = .slice (some ⟨b, off, none⟩) ys.length cap ∧ 0 < ys.length ∧ b < w.heap.size ∧
    ∀ j, j < ys.length → w.cell? ⟨b, off + j * 2, none⟩ = some (.int .i64 (atFc ys j).1) ∧ w.cell? ⟨b, off + j * 2 + 1, none⟩ = some (.int .i64 (atFc ys j).2))
theorem Fcs.below {w w' : World} {v : Value} {ys : List Fc} (h : Fcs w v ys) (hB : Below w.heap.size w w') : Fcs w' v ys := by
  obtain ⟨hr, h | ⟨b, off, cap, rfl, h0, hb, hc⟩⟩ := h
  · exact ⟨hr, .inl h⟩
  · exact ⟨hr, .inr ⟨b, off, cap, rfl, h0, Nat.lt_of_lt_of_le hb hB.size, fun j hj => ⟨(hB.cell (p := ⟨b, _, none⟩) hb).trans (hc j hj).1, (hB.cell (p := ⟨b, _, none⟩) hb).trans (hc j hj).2⟩⟩⟩
theorem Fcs.len {w : World} {v : Value} {ys : List Fc} (h : Fcs w v ys) : ∃ a cap, v = .slice a ys.length cap := by
  obtain ⟨_, ⟨a, cap, rfl, rfl⟩ | ⟨b, off, cap, rfl, _⟩⟩ := h
  · exact ⟨_, _, rfl⟩
  · exact ⟨_, _, rfl⟩
theorem Fcs.nil {w : World} {v : Value} (h : Fcs w v []) : ∃ a cap, v = .slice a 0 cap := h.len
theorem Fcs.pos {w : World} {v : Value} {ys : List Fc} (h : Fcs w v ys) (h0 : 0 < ys.length) : ∃ b off cap, v = .slice (some ⟨b, off, none⟩) ys.length cap ∧ b < w.heap.size ∧
    ∀ j, j < ys.length → w.cell? ⟨b, off + j * 2, none⟩ = some (.int .i64 (atFc ys j).1) ∧ w.cell? ⟨b, off + j * 2 + 1, none⟩ = some (.int .i64 (atFc ys j).2) := by
  obtain ⟨_, ⟨a, cap, rfl, rfl⟩ | ⟨b, off, cap, rfl, _, hb, hc⟩⟩ := h
  · simp at h0
  · exact ⟨_, _, _, rfl, hb, hc⟩
theorem Fcs.is {w : World} {v : Value} {ys : List Fc} (h : Fcs w v ys) (j : Nat) : IsFc (atFc ys j) := h.1 j

/-- A slice that the call itself has made, from block base on. -/
def OwnFc (w : World) (base : Nat) (v : Value) (ys : List Fc) : Prop := (∀ j, IsFc (atFc ys j)) ∧ w.ownsRow base 38 2 v ys.length (cellsFc ys)
theorem OwnFc.row {w : World} {base : Nat} {v : Value} {ys : List Fc} (h : OwnFc w base v ys) : w.ownsRow base 38 2 v ys.length (cellsFc ys) := h.2
theorem OwnFc.rel {w : World} {base : Nat} {v : Value} {ys : List Fc} (h : OwnFc w base v ys) : Fcs w v ys := by
  refine ⟨h.1, ?_⟩
  rcases h.2.2 with ⟨rfl, hn⟩ | ⟨g, cap, cur, hv, hb, hg, _⟩
  · exact .inl ⟨_, _, rfl, List.length_eq_zero_iff.1 hn⟩
  · by_cases h0 : ys = []
    · subst h0
      exact .inl ⟨_, _, hv, rfl⟩
    · have hr := h.2
      rw [hv] at hr
      refine .inr ⟨g, 0, cap, hv, List.length_pos_iff.2 h0, lt_of_block hg, fun j hj => ?_⟩
      have hc := cellsFc_get ys j hj
      simp only [Nat.zero_add]
      exact ⟨(hr.cellAt _ (by omega)).trans hc.1, (hr.cellAt _ (by omega)).trans hc.2⟩
theorem OwnFc.below {w w' : World} {base : Nat} {v : Value} {ys : List Fc} (h : OwnFc w base v ys) (hB : Below w.heap.size w w') : OwnFc w' base v ys := by
  refine ⟨h.1, h.2.1, ?_⟩
  rcases h.2.2 with h2 | ⟨g, cap, cur, hv, hg, hh, r⟩
  · exact .inl h2
  · exact .inr ⟨g, cap, cur, hv, hg, by rw [hB.block g (lt_of_block hh)]; exact hh, r⟩
theorem OwnFc.lt {w : World} {base : Nat} {v : Value} {ys : List Fc} (h : OwnFc w base v ys) : ∀ k, v.ownBlock = some k → base ≤ k ∧ k < w.heap.size := World.ownsRow.lt h.row
theorem OwnFc.kept {w w' : World} {base : Nat} {v : Value} {ys : List Fc} {row : Option Nat} (h : OwnFc w base v ys) (hg : w.grownBy w' row) (hne : v.ownBlock = none ∨ v.ownBlock ≠ row) : OwnFc w' base v ys := ⟨h.1, h.2.kept hg hne⟩

end Go.Proofs.Ytekejhnhkifcfaa
