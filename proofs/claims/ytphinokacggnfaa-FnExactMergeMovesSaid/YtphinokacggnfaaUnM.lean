/-
  No statement is proved here: moves without one, as lists; no condition.
-/
import Derived.Test.YtphinokacggnfaaNetM
import Derived.Test.YtphinokacggnfaaMvS
namespace Go.Proofs.Ytphinokacggnfaa
open Go.ChangeShapes Go.WideShapes Go.ChangeAt Go.RowKit

def undoL (ms : List Mv) (a : Nat) : List Mv := ms.take a ++ ms.drop (a + 1)
theorem undoL_length {ms : List Mv} {a : Nat} (h : a < ms.length) : (undoL ms a).length = ms.length - 1 := by
  unfold undoL
  rw [List.length_append, List.length_take, List.length_drop]
  omega
theorem isMv_zero : IsMv (0, 0, 0) := by simp [IsMv]
theorem isMv_mem {ms : List Mv} : (∀ j, IsMv (atMv ms j)) ↔ ∀ y ∈ ms, IsMv y := by
  constructor
  · intro h y hy
    obtain ⟨j, hj, rfl⟩ := List.getElem_of_mem hy
    have := h j
    rwa [atMv, List.getD, List.getElem?_eq_getElem hj] at this
  · intro h j
    unfold atMv
    by_cases hj : j < ms.length
    · rw [List.getD, List.getElem?_eq_getElem hj]
      exact h _ (List.getElem_mem hj)
    · rw [List.getD, List.getElem?_eq_none (by omega)]
      exact isMv_zero
theorem undoL_is {ms : List Mv} (h : ∀ j, IsMv (atMv ms j)) (a : Nat) : ∀ j, IsMv (atMv (undoL ms a) j) := by
  rw [isMv_mem] at h ⊢
  intro y hy
  unfold undoL at hy
  rcases List.mem_append.1 hy with hy | hy
  · exact h y (List.mem_of_mem_take hy)
  · exact h y (List.mem_of_mem_drop hy)
theorem cellsMv_app (xs ys : List Mv) : cellsMv (xs ++ ys) = cellsMv xs ++ cellsMv ys := by simp [cellsMv]
theorem cellsMv_one (ys : List Mv) : ∀ u ∈ cellsMv ys, u.oneCell' = true := by
  induction ys with
  | nil => intro u hu; simp [cellsMv] at hu
  | cons y ys ih =>
    intro u hu
    rw [cellsMv_cons] at hu
    simp only [List.mem_cons] at hu
    rcases hu with rfl | rfl | rfl | hu
    · rfl
    · rfl
    · rfl
    · exact ih u hu
/-- A part of a list of moves, by its address. -/
def PartMv (w : World) (ad : Addr) (ys : List Mv) : Prop := ∀ j u, (cellsMv ys)[j]? = some u → w.cell? (ad.add j) = some u
theorem PartMv.below {w w' : World} {b off : Nat} {ys : List Mv} (h : PartMv w ⟨b, off, none⟩ ys) (hb : b < w.heap.size) (hB : Below w.heap.size w w') : PartMv w' ⟨b, off, none⟩ ys := fun j u hu => by
  have := h j u hu
  rw [add_plain] at this ⊢
  exact (hB.cell (p := ⟨b, _, none⟩) hb).trans this
theorem partMv_of {w : World} {b off : Nat} {ms : List Mv} (hc : ∀ j, j < ms.length → w.cell? ⟨b, off + j * 3, none⟩ = some (.int .i8 (atMv ms j).1) ∧ w.cell? ⟨b, off + j * 3 + 1, none⟩ = some (.int .i8 (atMv ms j).2.1) ∧ w.cell? ⟨b, off + j * 3 + 2, none⟩ = some (.int .i16 (atMv ms j).2.2)) : PartMv w ⟨b, off, none⟩ ms := fun j u hu => by
  have hj : j < ms.length * 3 := by
    have := (List.getElem?_eq_some_iff.1 hu).1
    rwa [cellsMv_length] at this
  have h1 := hc (j / 3) (by omega)
  have h2 := cellsMv_get ms (j / 3) (by omega)
  have h3 : j % 3 = 0 ∨ j % 3 = 1 ∨ j % 3 = 2 := by omega
  rw [add_plain]
  rcases h3 with h3 | h3 | h3
  · have g1 := h1.1
    have g2 := h2.1
    rw [show off + j / 3 * 3 = off + j by omega] at g1
    rw [show j / 3 * 3 = j by omega, hu] at g2
    rw [g1, ← g2]
  · have g1 := h1.2.1
    have g2 := h2.2.1
    rw [show off + j / 3 * 3 + 1 = off + j by omega] at g1
    rw [show j / 3 * 3 + 1 = j by omega, hu] at g2
    rw [g1, ← g2]
  · have g1 := h1.2.2
    have g2 := h2.2.2
    rw [show off + j / 3 * 3 + 2 = off + j by omega] at g1
    rw [show j / 3 * 3 + 2 = j by omega, hu] at g2
    rw [g1, ← g2]
theorem PartMv.take {w : World} {ad : Addr} {ms : List Mv} (h : PartMv w ad ms) (a : Nat) : PartMv w ad (ms.take a) := fun j u hu => by
  refine h j u ?_
  have e : cellsMv ms = cellsMv (ms.take a) ++ cellsMv (ms.drop a) := by rw [← cellsMv_app, List.take_append_drop]
  have hj := (List.getElem?_eq_some_iff.1 hu).1
  rw [e, List.getElem?_append_left hj]
  exact hu
theorem PartMv.drop {w : World} {b off : Nat} {ms : List Mv} (h : PartMv w ⟨b, off, none⟩ ms) {a : Nat} (ha : a ≤ ms.length) : PartMv w ⟨b, off + a * 3, none⟩ (ms.drop a) := fun j u hu => by
  have e : cellsMv ms = cellsMv (ms.take a) ++ cellsMv (ms.drop a) := by rw [← cellsMv_app, List.take_append_drop]
  have hl : (cellsMv (ms.take a)).length = a * 3 := by rw [cellsMv_length, List.length_take, Nat.min_eq_left ha]
  have := h (a * 3 + j) u (by rw [e, List.getElem?_append_right (by omega), hl, show a * 3 + j - a * 3 = j by omega]; exact hu)
  rw [add_plain] at this ⊢
  rw [show off + a * 3 + j = off + (a * 3 + j) by omega]
  exact this
/-- What UndoMove answers. -/
def undoF (ms : List Mv) (x : Int) : List Mv × Int := if isMvs ms = true then (if 0 ≤ x ∧ x < (ms.length : Int) then (undoL ms x.toNat, 0) else ([], 2)) else ([], 1)
theorem undoF_no {ms : List Mv} {x : Int} (h : isMvs ms = false) : undoF ms x = ([], 1) := if_neg (by rw [h]; simp)
theorem undoF_out {ms : List Mv} {x : Int} (h : isMvs ms = true) (hx : x < 0 ∨ (ms.length : Int) ≤ x) : undoF ms x = ([], 2) := by rw [undoF, if_pos h, if_neg (by omega)]
theorem undoF_yes {ms : List Mv} {a : Nat} (h : isMvs ms = true) (ha : a < ms.length) : undoF ms (a : Int) = (undoL ms a, 0) := by rw [undoF, if_pos h, if_pos (by omega), Int.toNat_natCast]
theorem undoF_len {ms : List Mv} {x : Int} (hn : ms.length ≤ 1048576) : (undoF ms x).1.length ≤ 2097152 := by
  unfold undoF
  split
  · split
    · show (undoL ms x.toNat).length ≤ _
      unfold undoL
      rw [List.length_append, List.length_take, List.length_drop]
      omega
    · simp
  · simp
theorem own_shape {w : World} {base : Nat} {v : Value} {ms : List Mv} (h : OwnMv w base v ms) (h0 : 0 < ms.length) : ∃ b cap, v = .slice (some ⟨b, 0, none⟩) ms.length cap ∧ b < w.heap.size ∧ ms.length ≤ cap ∧ cap ≤ maxLen ∧ PartMv w ⟨b, 0, none⟩ ms := by
  rcases h.row.2 with ⟨_, hn⟩ | ⟨g, cap, cur, rfl, hb, hg, hnc, hcm, _⟩
  · omega
  · refine ⟨g, cap, rfl, lt_of_block hg, hnc, hcm, ?_⟩
    have hr := h.row
    refine partMv_of fun j hj => ?_
    have hc := cellsMv_get ms j hj
    simp only [Nat.zero_add]
    exact ⟨(hr.cellAt _ (by omega)).trans hc.1, (hr.cellAt _ (by omega)).trans hc.2.1, (hr.cellAt _ (by omega)).trans hc.2.2⟩
end Go.Proofs.Ytphinokacggnfaa
