/-
  No statement is proved here: slices of orders (structs of small integers), that came in or that the call itself made; no condition.
-/
import Derived.Test.YtapimmlhcbjgoaaRec
namespace Go.Proofs.Ytapimmlhcbjgoaa
open Go.ChangeShapes Go.WideShapes Go.ChangeAt Go.RowKit

abbrev Od := Int × Int
def cellsOd (ys : List Od) : List Value := ys.flatMap fun y => [.int .i8 y.1, .int .i16 y.2]
def atOd (ys : List Od) (j : Nat) : Od := ys.getD j (0, 0)
def IsOd (y : Od) : Prop := (-128 ≤ y.1 ∧ y.1 ≤ 127) ∧ (-32768 ≤ y.2 ∧ y.2 ≤ 32767)
theorem cellsOd_cons (y : Od) (ys : List Od) : cellsOd (y :: ys) = .int .i8 y.1 :: .int .i16 y.2 :: cellsOd ys := rfl
theorem cellsOd_length (ys : List Od) : (cellsOd ys).length = ys.length * 2 := by
  induction ys with
  | nil => rfl
  | cons y ys ih => rw [cellsOd_cons]; simp only [List.length_cons, ih]; omega
theorem cellsOd_get : ∀ (ys : List Od) (j : Nat), j < ys.length →
    (cellsOd ys)[j * 2]? = some (.int .i8 (atOd ys j).1) ∧ (cellsOd ys)[j * 2 + 1]? = some (.int .i16 (atOd ys j).2)
  | [], j, h => by simp at h
  | y :: ys, 0, _ => by rw [cellsOd_cons]; exact ⟨rfl, rfl⟩
  | y :: ys, j + 1, h => by
    have ih := cellsOd_get ys j (by simpa using h)
    have e : atOd (y :: ys) (j + 1) = atOd ys j := rfl
    rw [cellsOd_cons, e, show (j + 1) * 2 = j * 2 + 1 + 1 by omega]
    exact ⟨by simpa using ih.1, by simpa using ih.2⟩
/-- What the cells of a slice hold. -/
def Ods (w : World) (v : Value) (ys : List Od) : Prop :=
  (∀ j, IsOd (atOd ys j)) ∧ ((∃ a cap, v = .slice a 0 cap ∧ ys = []) ∨
  ∃ b off cap, v = .slice (some ⟨b, off, none⟩) ys.length cap ∧ 0 < ys.length ∧ b < w.heap.size ∧
    ∀ j, j < ys.length → w.cell? ⟨b, off + j * 2, none⟩ = some (.int .i8 (atOd ys j).1) ∧ w.cell? ⟨b, off + j * 2 + 1, none⟩ = some (.int .i16 (atOd ys j).2))
theorem Ods.below {w w' : World} {v : Value} {ys : List Od} (h : Ods w v ys) (hB : Below w.heap.size w w') : Ods w' v ys := by
  obtain ⟨hr, h | ⟨b, off, cap, rfl, h0, hb, hc⟩⟩ := h
  · exact ⟨hr, .inl h⟩
  · exact ⟨hr, .inr ⟨b, off, cap, rfl, h0, Nat.lt_of_lt_of_le hb hB.size, fun j hj => ⟨(hB.cell (p := ⟨b, _, none⟩) hb).trans (hc j hj).1, (hB.cell (p := ⟨b, _, none⟩) hb).trans (hc j hj).2⟩⟩⟩
theorem Ods.len {w : World} {v : Value} {ys : List Od} (h : Ods w v ys) : ∃ a cap, v = .slice a ys.length cap := by
  obtain ⟨_, ⟨a, cap, rfl, rfl⟩ | ⟨b, off, cap, rfl, _⟩⟩ := h
  · exact ⟨_, _, rfl⟩
  · exact ⟨_, _, rfl⟩
theorem Ods.nil {w : World} {v : Value} (h : Ods w v []) : ∃ a cap, v = .slice a 0 cap := h.len
theorem Ods.pos {w : World} {v : Value} {ys : List Od} (h : Ods w v ys) (h0 : 0 < ys.length) : ∃ b off cap, v = .slice (some ⟨b, off, none⟩) ys.length cap ∧ b < w.heap.size ∧
    ∀ j, j < ys.length → w.cell? ⟨b, off + j * 2, none⟩ = some (.int .i8 (atOd ys j).1) ∧ w.cell? ⟨b, off + j * 2 + 1, none⟩ = some (.int .i16 (atOd ys j).2) := by
  obtain ⟨_, ⟨a, cap, rfl, rfl⟩ | ⟨b, off, cap, rfl, _, hb, hc⟩⟩ := h
  · simp at h0
  · exact ⟨_, _, _, rfl, hb, hc⟩
theorem Ods.is {w : World} {v : Value} {ys : List Od} (h : Ods w v ys) (j : Nat) : IsOd (atOd ys j) := h.1 j

/-- A slice that the call itself has made, from block base on. -/
def OwnOd (w : World) (base : Nat) (v : Value) (ys : List Od) : Prop := (∀ j, IsOd (atOd ys j)) ∧ w.ownsRow base 49 2 v ys.length (cellsOd ys)
theorem OwnOd.row {w : World} {base : Nat} {v : Value} {ys : List Od} (h : OwnOd w base v ys) : w.ownsRow base 49 2 v ys.length (cellsOd ys) := h.2
theorem OwnOd.rel {w : World} {base : Nat} {v : Value} {ys : List Od} (h : OwnOd w base v ys) : Ods w v ys := by
  refine ⟨h.1, ?_⟩
  rcases h.2.2 with ⟨rfl, hn⟩ | ⟨g, cap, cur, hv, hb, hg, _⟩
  · exact .inl ⟨_, _, rfl, List.length_eq_zero_iff.1 hn⟩
  · by_cases h0 : ys = []
    · subst h0
      exact .inl ⟨_, _, hv, rfl⟩
    · have hr := h.2
      rw [hv] at hr
      refine .inr ⟨g, 0, cap, hv, List.length_pos_iff.2 h0, lt_of_block hg, fun j hj => ?_⟩
      have hc := cellsOd_get ys j hj
      simp only [Nat.zero_add]
      exact ⟨(hr.cellAt _ (by omega)).trans hc.1, (hr.cellAt _ (by omega)).trans hc.2⟩
theorem OwnOd.below {w w' : World} {base : Nat} {v : Value} {ys : List Od} (h : OwnOd w base v ys) (hB : Below w.heap.size w w') : OwnOd w' base v ys := by
  refine ⟨h.1, h.2.1, ?_⟩
  rcases h.2.2 with h2 | ⟨g, cap, cur, hv, hg, hh, r⟩
  · exact .inl h2
  · exact .inr ⟨g, cap, cur, hv, hg, by rw [hB.block g (lt_of_block hh)]; exact hh, r⟩
theorem OwnOd.lt {w : World} {base : Nat} {v : Value} {ys : List Od} (h : OwnOd w base v ys) : ∀ k, v.ownBlock = some k → base ≤ k ∧ k < w.heap.size := World.ownsRow.lt h.row
theorem OwnOd.kept {w w' : World} {base : Nat} {v : Value} {ys : List Od} {row : Option Nat} (h : OwnOd w base v ys) (hg : w.grownBy w' row) (hne : v.ownBlock = none ∨ v.ownBlock ≠ row) : OwnOd w' base v ys := ⟨h.1, h.2.kept hg hne⟩

set_option maxRecDepth 100000 in
theorem open_argOd {H : Type} {enc : TypeId × Value → H} {w : World} {v : Value} {d : DataW H} {p : List MemPlace} {base : Nat} (o : Value.okWide Try.prog w .any base 23 v) (k : DataW.Trod enc Try.prog w 0 (fun _ => true) true 23 v d p) : ∃ ys, Ods w v ys ∧ (ys.length : Int) ≤ 9223372036854775807 := by
  obtain ⟨m, hf⟩ := k
  have hag : ∀ cs, v ≠ .agg cs := by
    rintro cs rfl
    unfold Value.okWide at o
    rw [Try.underlying23] at o
    unfold Cell.okWide at o
    rw [Try.underlying23] at o
    unfold Cell.ok at o
    rw [Try.underlying23] at o
    simp at o
  have hlt := DataW.trod_lt m _ _ _ hf
  rcases open_slice_fields Try.underlying23 Try.underlying51 (by kernel_rfl) (by kernel_rfl) hf with ⟨hcs, hx⟩ | ⟨a, len, cap, m', D, Pl, hcs, _, hl, hm, hz, hx, hi⟩
  · simp [Value.cells] at hcs
    exact ⟨[], ⟨by intro j; simp [atOd, IsOd], .inl (by cases v <;> simp_all)⟩, by simp⟩
  · simp only [if_true] at hz
    by_cases hl0 : len = 0
    · subst hl0
      refine ⟨[], ⟨by intro j; simp [atOd, IsOd], .inl ⟨some a, cap, ?_, rfl⟩⟩, by simp⟩
      cases v <;> simp_all [Value.cells]
    · obtain ⟨ys, hyl, hq⟩ := listOfD (d := (((0, 0) : Od))) (Q := fun i y => IsOd y ∧ w.cell? (a.add (i * 2)) = some (.int .i8 y.1) ∧ w.cell? (a.add (i * 2 + 1)) = some (.int .i16 y.2)) len fun i hil => by
        obtain ⟨zs, n, _, _, _, hcell⟩ := hi i (by omega)
        obtain ⟨v0, y0, c0, _, t0⟩ := hcell 0 _ rfl
        obtain ⟨v1, y1, c1, _, t1⟩ := hcell 1 _ rfl
        obtain ⟨z0, rfl, r0⟩ := cellI8 Try.underlying43 t0
        obtain ⟨z1, rfl, r1⟩ := cellI16 Try.underlying44 t1
        exact ⟨(z0, z1), ⟨r0, r1⟩, c0, c1⟩
      obtain ⟨b, off, spot⟩ := a
      have hspot : spot = none := by
        have := World.cell?_spot (hq 0 (by omega)).2.1
        simpa [Addr.add] using this
      subst hspot
      simp only [Prod.mk.injEq] at hx
      have hbW : b < w.heap.size := hlt (.cell b off) (by rw [hx.2]; exact List.mem_append_left _ (MemPlace.mem_row.2 ⟨0, by simp; omega, by simp⟩))
      refine ⟨ys, ⟨fun j => ?_, .inr ⟨b, off, cap, ?_, by omega, hbW, fun j hj => ?_⟩⟩, by unfold maxLen at hm; omega⟩
      · by_cases hj : j < len
        · exact (hq j hj).1
        · have : atOd ys j = (0, 0) := by unfold atOd; simp [List.getD, List.getElem?_eq_none (show ys.length ≤ j by omega)]
          rw [this]
          simp [IsOd]
      · rw [hyl]
        cases v <;> simp_all [Value.cells]
      · have := hq j (by omega)
        simp only [add_plain, ← Nat.add_assoc] at this
        exact this.2
end Go.Proofs.Ytapimmlhcbjgoaa
