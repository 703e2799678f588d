/-
  No statement is proved here: what the laws over a fabric and a loop ask of memory; no condition.
-/
import Derived.Test.YtcdjabhdbobghaaDoorFabW
import Derived.Deep.RegionHeld3
namespace Go.Proofs.YtcdjabhdbobghaaDoor
open Go.ChangeShapes Go.WideShapes Go.ChangeAt Go.RowKit

set_option maxRecDepth 100000 in
theorem open_loop {w : World} {base : Nat} {v : Value} (o : Value.okWide Tryd.prog w .any base 27 v) : ∃ y z : Int, v = .agg #[.int .i16 y, .int .i16 z] ∧ (-32768 ≤ y ∧ y ≤ 32767) ∧ (-32768 ≤ z ∧ z ≤ 32767) := by
  obtain ⟨vs, rfl, hc⟩ := open_cells o (by kernel_rfl) (ts := [22, 22]) (ks := [.i16, .i16]) (by kernel_rfl) (by kernel_rfl) (by kernel_rfl)
  obtain ⟨a, _, rfl, ha, b, _, rfl, hb, rfl⟩ := hc
  exact ⟨a, b, rfl, ha, hb⟩
set_option maxRecDepth 100000 in
theorem toLoop_any (y z : Int) (w : World) :
    Calls Tryd.prog 9 #[.agg #[.int .i16 y, .int .i16 z]] w fun e w' => e = .returned (.agg #[.int .i16 y, .int .i16 z]) ∧ Below w.heap.size w w' := by
  go_enter Tryd.func9, Tryd.ntmps9
  go_wp2
  go_returns
  exact ⟨rfl, by go_grown⟩
theorem hb4_get {w W : World} {b d : Nat} {x y z u : Value} (h : W.cell? ⟨b, 0, none⟩ = some x ∧ W.cell? ⟨b, 1, none⟩ = some y ∧ W.cell? ⟨d, 0, none⟩ = some z ∧ W.cell? ⟨d, 1, none⟩ = some u ∧ Below w.heap.size w W ∧ b < W.heap.size ∧ d < W.heap.size) : Hb2 w W b x y ∧ Hb2 w W d z u :=
  ⟨⟨h.1, h.2.1, h.2.2.2.2.1, h.2.2.2.2.2.1⟩, ⟨h.2.2.1, h.2.2.2.1, h.2.2.2.2.1, h.2.2.2.2.2.2⟩⟩
theorem hb6_start {w W : World} {b d g : Nat} {x y z u s t : Value} (h : Hb2 w W b x y) (k : Hb2 w W d z u) (l : Hb2 w W g s t) :
    W.drew.cell? ⟨b, 0, none⟩ = some x ∧ W.drew.cell? ⟨b, 1, none⟩ = some y ∧ W.drew.cell? ⟨d, 0, none⟩ = some z ∧ W.drew.cell? ⟨d, 1, none⟩ = some u ∧ W.drew.cell? ⟨g, 0, none⟩ = some s ∧ W.drew.cell? ⟨g, 1, none⟩ = some t ∧ Below w.heap.size w W.drew ∧ Below W.heap.size W W.drew ∧ b < W.drew.heap.size ∧ d < W.drew.heap.size ∧ g < W.drew.heap.size :=
  ⟨h.1, h.2.1, k.1, k.2.1, l.1, l.2.1, h.2.2.1.drew, (Below.refl _ _).drew, h.2.2.2, k.2.2.2, l.2.2.2⟩
theorem hb6_next {w V W w' : World} {b d g : Nat} {x y z u s t : Value} (h : W.cell? ⟨b, 0, none⟩ = some x ∧ W.cell? ⟨b, 1, none⟩ = some y ∧ W.cell? ⟨d, 0, none⟩ = some z ∧ W.cell? ⟨d, 1, none⟩ = some u ∧ W.cell? ⟨g, 0, none⟩ = some s ∧ W.cell? ⟨g, 1, none⟩ = some t ∧ Below w.heap.size w W ∧ Below V.heap.size V W ∧ b < W.heap.size ∧ d < W.heap.size ∧ g < W.heap.size) (hB : Below W.heap.size W w') :
    w'.cell? ⟨b, 0, none⟩ = some x ∧ w'.cell? ⟨b, 1, none⟩ = some y ∧ w'.cell? ⟨d, 0, none⟩ = some z ∧ w'.cell? ⟨d, 1, none⟩ = some u ∧ w'.cell? ⟨g, 0, none⟩ = some s ∧ w'.cell? ⟨g, 1, none⟩ = some t ∧ Below w.heap.size w w' ∧ Below V.heap.size V w' ∧ b < w'.heap.size ∧ d < w'.heap.size ∧ g < w'.heap.size := by
  obtain ⟨h0, h1, h2, h3, h4, h5, h6, h7, h8, h9, h10⟩ := h
  exact ⟨kept hB h8 h0, kept hB h8 h1, kept hB h9 h2, kept hB h9 h3, kept hB h10 h4, kept hB h10 h5, h6.trans (hB.mono h6.size), h7.trans (hB.mono h7.size), Nat.lt_of_lt_of_le h8 hB.size, Nat.lt_of_lt_of_le h9 hB.size, Nat.lt_of_lt_of_le h10 hB.size⟩
theorem hb6_get {w V W : World} {b d g : Nat} {x y z u s t : Value} (h : W.cell? ⟨b, 0, none⟩ = some x ∧ W.cell? ⟨b, 1, none⟩ = some y ∧ W.cell? ⟨d, 0, none⟩ = some z ∧ W.cell? ⟨d, 1, none⟩ = some u ∧ W.cell? ⟨g, 0, none⟩ = some s ∧ W.cell? ⟨g, 1, none⟩ = some t ∧ Below w.heap.size w W ∧ Below V.heap.size V W ∧ b < W.heap.size ∧ d < W.heap.size ∧ g < W.heap.size) : Hb2 w W b x y ∧ Hb2 w W d z u ∧ Hb2 w W g s t ∧ Below V.heap.size V W ∧ Below w.heap.size w W :=
  ⟨⟨h.1, h.2.1, h.2.2.2.2.2.2.1, h.2.2.2.2.2.2.2.2.1⟩, ⟨h.2.2.1, h.2.2.2.1, h.2.2.2.2.2.2.1, h.2.2.2.2.2.2.2.2.2.1⟩, ⟨h.2.2.2.2.1, h.2.2.2.2.2.1, h.2.2.2.2.2.2.1, h.2.2.2.2.2.2.2.2.2.2⟩, h.2.2.2.2.2.2.2.1, h.2.2.2.2.2.2.1⟩
theorem hb_two (w : World) (x y z u : Value) (t t' : TypeId) : Hb2 w ((w.alloc (.cells #[x, y] t)).alloc (.cells #[z, u] t')) w.heap.size x y ∧ Hb2 w ((w.alloc (.cells #[x, y] t)).alloc (.cells #[z, u] t')) (w.heap.size + 1) z u :=
  ⟨⟨by simp [go_sem], by simp [go_sem], by go_grown, by simp; omega⟩, ⟨by simp [go_sem], by simp [go_sem], by go_grown, by simp⟩⟩
theorem hb4v_start {w W : World} {b d : Nat} {x y z u : Value} (h : Hb2 w W b x y) (k : Hb2 w W d z u) :
    W.drew.cell? ⟨b, 0, none⟩ = some x ∧ W.drew.cell? ⟨b, 1, none⟩ = some y ∧ W.drew.cell? ⟨d, 0, none⟩ = some z ∧ W.drew.cell? ⟨d, 1, none⟩ = some u ∧ Below w.heap.size w W.drew ∧ Below W.heap.size W W.drew ∧ b < W.drew.heap.size ∧ d < W.drew.heap.size :=
  ⟨h.1, h.2.1, k.1, k.2.1, h.2.2.1.drew, (Below.refl _ _).drew, h.2.2.2, k.2.2.2⟩
theorem hb4v_next {w V W w' : World} {b d : Nat} {x y z u : Value} (h : W.cell? ⟨b, 0, none⟩ = some x ∧ W.cell? ⟨b, 1, none⟩ = some y ∧ W.cell? ⟨d, 0, none⟩ = some z ∧ W.cell? ⟨d, 1, none⟩ = some u ∧ Below w.heap.size w W ∧ Below V.heap.size V W ∧ b < W.heap.size ∧ d < W.heap.size) (hB : Below W.heap.size W w') :
    w'.cell? ⟨b, 0, none⟩ = some x ∧ w'.cell? ⟨b, 1, none⟩ = some y ∧ w'.cell? ⟨d, 0, none⟩ = some z ∧ w'.cell? ⟨d, 1, none⟩ = some u ∧ Below w.heap.size w w' ∧ Below V.heap.size V w' ∧ b < w'.heap.size ∧ d < w'.heap.size := by
  obtain ⟨h0, h1, h2, h3, h6, h7, h8, h9⟩ := h
  exact ⟨kept hB h8 h0, kept hB h8 h1, kept hB h9 h2, kept hB h9 h3, h6.trans (hB.mono h6.size), h7.trans (hB.mono h7.size), Nat.lt_of_lt_of_le h8 hB.size, Nat.lt_of_lt_of_le h9 hB.size⟩
theorem hb4v_below {w V W : World} {b d : Nat} {x y z u : Value} (h : W.cell? ⟨b, 0, none⟩ = some x ∧ W.cell? ⟨b, 1, none⟩ = some y ∧ W.cell? ⟨d, 0, none⟩ = some z ∧ W.cell? ⟨d, 1, none⟩ = some u ∧ Below w.heap.size w W ∧ Below V.heap.size V W ∧ b < W.heap.size ∧ d < W.heap.size) : Below w.heap.size w W ∧ Below V.heap.size V W := ⟨h.2.2.2.2.1, h.2.2.2.2.2.1⟩
theorem hb4v_size {w V W : World} {b d : Nat} {x y z u : Value} (h : W.cell? ⟨b, 0, none⟩ = some x ∧ W.cell? ⟨b, 1, none⟩ = some y ∧ W.cell? ⟨d, 0, none⟩ = some z ∧ W.cell? ⟨d, 1, none⟩ = some u ∧ Below w.heap.size w W ∧ Below V.heap.size V W ∧ b < W.heap.size ∧ d < W.heap.size) : V.heap.size ≤ W.heap.size := h.2.2.2.2.2.1.size
theorem hb4v_get {w V W : World} {b d : Nat} {x y z u : Value} (h : W.cell? ⟨b, 0, none⟩ = some x ∧ W.cell? ⟨b, 1, none⟩ = some y ∧ W.cell? ⟨d, 0, none⟩ = some z ∧ W.cell? ⟨d, 1, none⟩ = some u ∧ Below w.heap.size w W ∧ Below V.heap.size V W ∧ b < W.heap.size ∧ d < W.heap.size) : Hb2 w W b x y ∧ Hb2 w W d z u ∧ Below V.heap.size V W :=
  ⟨⟨h.1, h.2.1, h.2.2.2.2.1, h.2.2.2.2.2.2.1⟩, ⟨h.2.2.1, h.2.2.2.1, h.2.2.2.2.1, h.2.2.2.2.2.2.2⟩, h.2.2.2.2.2.1⟩
theorem hb6_size {w V W : World} {b d g : Nat} {x y z u s t : Value} (h : W.cell? ⟨b, 0, none⟩ = some x ∧ W.cell? ⟨b, 1, none⟩ = some y ∧ W.cell? ⟨d, 0, none⟩ = some z ∧ W.cell? ⟨d, 1, none⟩ = some u ∧ W.cell? ⟨g, 0, none⟩ = some s ∧ W.cell? ⟨g, 1, none⟩ = some t ∧ Below w.heap.size w W ∧ Below V.heap.size V W ∧ b < W.heap.size ∧ d < W.heap.size ∧ g < W.heap.size) : V.heap.size ≤ W.heap.size := h.2.2.2.2.2.2.2.1.size
end Go.Proofs.YtcdjabhdbobghaaDoor
