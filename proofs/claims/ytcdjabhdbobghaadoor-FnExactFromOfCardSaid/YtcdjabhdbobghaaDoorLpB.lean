/-
  No statement is proved here: the boxes of a loop and of a piece, and the cells of a list of steps; no condition.
-/
import Derived.Test.YtcdjabhdbobghaaDoorLpI
import Derived.Deep.RegionWith
namespace Go.Proofs.YtcdjabhdbobghaaDoor
open Go.ChangeShapes Go.WideShapes Go.ChangeAt Go.RowKit

/-- The boxes of a loop and of a piece. -/
def Lb (w W : World) (lb pb : Nat) (r a : Int) (x y z : Value) : Prop :=
  W.cell? ⟨lb, 0, none⟩ = some (.int .i16 r) ∧ W.cell? ⟨lb, 1, none⟩ = some (.int .i16 a) ∧ W.cell? ⟨pb, 0, none⟩ = some x ∧ W.cell? ⟨pb, 1, none⟩ = some y ∧ W.cell? ⟨pb, 2, none⟩ = some z ∧ Below w.heap.size w W ∧ lb < W.heap.size ∧ pb < W.heap.size
theorem Lb.next {w W w' : World} {lb pb : Nat} {r a : Int} {x y z : Value} (h : Lb w W lb pb r a x y z) (hB : Below W.heap.size W w') : Lb w w' lb pb r a x y z := by
  obtain ⟨h1, h2, h3, h4, h5, h6, h7, h8⟩ := h
  exact ⟨kept hB h7 h1, kept hB h7 h2, kept hB h8 h3, kept hB h8 h4, kept hB h8 h5, h6.trans (hB.mono h6.size), Nat.lt_of_lt_of_le h7 hB.size, Nat.lt_of_lt_of_le h8 hB.size⟩
theorem Lb.under {w W : World} {lb pb : Nat} {r a : Int} {x y z : Value} (h : Lb w W lb pb r a x y z) : Below w.heap.size w W := h.2.2.2.2.2.1

theorem step_cells {w : World} {B n : Nat} {s : ByteArray} {sa : Option Addr} {sc : Nat} (h : OwnSt w B (.slice sa n sc) s n) {k : Nat} (hk : k < n) : ∃ g, sa = some ⟨g, 0, none⟩ ∧ g < w.heap.size ∧
    w.cell? ⟨g, k * 4, none⟩ = some (.int .i64 (sumB tk s k)) ∧ w.cell? ⟨g, k * 4 + 1, none⟩ = some (.int .i64 (tk (chAt s k))) ∧ w.cell? ⟨g, k * 4 + 2, none⟩ = some (.int .i64 (sumB mk s k)) ∧ w.cell? ⟨g, k * 4 + 3, none⟩ = some (.int .i64 (mk (chAt s k))) := by
  have hl := stepC_length s n
  obtain ⟨g, cap, e, hg, hb⟩ : ∃ g cap, Value.slice sa n sc = .slice (some ⟨g, 0, none⟩) n cap ∧ g < w.heap.size ∧ w.ownsRow B 62 4 (.slice (some ⟨g, 0, none⟩) n cap) n (stepC s n) := by
    rcases h.2 with ⟨_, hh⟩ | ⟨g', cap', cur, e, hb', hg', r⟩
    · omega
    · exact ⟨g', cap', e, lt_of_block hg', h.1, .inr ⟨g', cap', cur, rfl, hb', hg', r⟩⟩
  simp only [Value.slice.injEq] at e
  obtain ⟨c0, c1, c2, c3⟩ := stepC_get s n k hk
  exact ⟨g, e.1, hg, (hb.cellAt _ (by omega)).trans c0, (hb.cellAt _ (by omega)).trans c1, (hb.cellAt _ (by omega)).trans c2, (hb.cellAt _ (by omega)).trans c3⟩

end Go.Proofs.YtcdjabhdbobghaaDoor
