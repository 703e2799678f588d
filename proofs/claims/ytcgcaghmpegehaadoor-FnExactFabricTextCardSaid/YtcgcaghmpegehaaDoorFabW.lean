/-
  No statement is proved here: what the laws over fabrics ask of memory; condition: at most 1048576 texts.
-/
import Derived.Test.YtcgcaghmpegehaaDoorFab
import Derived.Test.YtcgcaghmpegehaaDoorKnitO
namespace Go.Proofs.YtcgcaghmpegehaaDoor
open Go.ChangeShapes Go.WideShapes Go.ChangeAt Go.RowKit

theorem hb2_at {w W : World} {x y : Value} (h : Below w.heap.size w W) (t : TypeId) : Hb2 w (W.alloc (.cells #[x, y] t)) W.heap.size x y := ⟨by simp [go_sem], by simp [go_sem], h.alloc h.size _, by simp⟩
theorem hb4_start {w W : World} {b d : Nat} {x y z u : Value} (h : Hb2 w W b x y) (k : Hb2 w W d z u) :
    W.drew.cell? ⟨b, 0, none⟩ = some x ∧ W.drew.cell? ⟨b, 1, none⟩ = some y ∧ W.drew.cell? ⟨d, 0, none⟩ = some z ∧ W.drew.cell? ⟨d, 1, none⟩ = some u ∧ Below w.heap.size w W.drew ∧ b < W.drew.heap.size ∧ d < W.drew.heap.size :=
  ⟨h.1, h.2.1, k.1, k.2.1, h.2.2.1.drew, h.2.2.2, k.2.2.2⟩
theorem hb4_next {w W w' : World} {b d : Nat} {x y z u : Value} (h : W.cell? ⟨b, 0, none⟩ = some x ∧ W.cell? ⟨b, 1, none⟩ = some y ∧ W.cell? ⟨d, 0, none⟩ = some z ∧ W.cell? ⟨d, 1, none⟩ = some u ∧ Below w.heap.size w W ∧ b < W.heap.size ∧ d < W.heap.size) (hB : Below W.heap.size W w') :
    w'.cell? ⟨b, 0, none⟩ = some x ∧ w'.cell? ⟨b, 1, none⟩ = some y ∧ w'.cell? ⟨d, 0, none⟩ = some z ∧ w'.cell? ⟨d, 1, none⟩ = some u ∧ Below w.heap.size w w' ∧ b < w'.heap.size ∧ d < w'.heap.size := by
  obtain ⟨h0, h1, h2, h3, h4, h5, h6⟩ := h
  exact ⟨kept hB h5 h0, kept hB h5 h1, kept hB h6 h2, kept hB h6 h3, h4.trans (hB.mono h4.size), Nat.lt_of_lt_of_le h5 hB.size, Nat.lt_of_lt_of_le h6 hB.size⟩
theorem hb4_below {w W : World} {b d : Nat} {x y z u : Value} (h : W.cell? ⟨b, 0, none⟩ = some x ∧ W.cell? ⟨b, 1, none⟩ = some y ∧ W.cell? ⟨d, 0, none⟩ = some z ∧ W.cell? ⟨d, 1, none⟩ = some u ∧ Below w.heap.size w W ∧ b < W.heap.size ∧ d < W.heap.size) : Below w.heap.size w W := h.2.2.2.2.1

set_option maxRecDepth 100000 in
theorem szFabric_yes (c : Int) (v : Value) (L : List ByteArray) (z : Int) (w : World) (h : Strs w v L) (hz : 0 ≤ z) (hz' : z ≤ 1048576) (hm : L.length ≤ maxLen) (hs : ∀ j, j < L.length → (L.getD j ByteArray.empty).size ≤ maxLen) (hle : (weight L : Int) ≤ z) :
    Calls Tryd.prog 4 #[.agg #[.int .i16 c, v], .int .i64 z] w fun e w' => e = .returned (.int .i64 (z - weight L)) ∧ Below w.heap.size w w' := by
  have B0 : Hid (Below w.heap.size w (w.alloc (.cells #[.int .i16 c, v] 25))) := (Below.refl w.heap.size w).alloc (Nat.le_refl _) _
  have H := Lib.hid (szStrs_any v L z _ (h.below B0.out) hz hz' hm hs)
  rw [if_pos hle] at H
  have hlt : ¬ z - (weight L : Int) < 0 := by omega
  generalize weight L = wt at *
  obtain ⟨a1, cp, rfl⟩ := h.len
  clear h hm hs
  go_enter Tryd.func4, Tryd.ntmps4
  go_wp2_with fail
  refine H.out.mono ?_
  rintro e w2 ⟨rfl, rfl⟩
  go_wp2
  go_ret
  exact ⟨rfl, B0.out⟩
set_option maxRecDepth 100000 in
theorem szFabric_no (c : Int) (v : Value) (L : List ByteArray) (z : Int) (w : World) (h : Strs w v L) (hz : 0 ≤ z) (hz' : z ≤ 1048576) (hm : L.length ≤ maxLen) (hs : ∀ j, j < L.length → (L.getD j ByteArray.empty).size ≤ maxLen) (hle : z < (weight L : Int)) :
    Calls Tryd.prog 4 #[.agg #[.int .i16 c, v], .int .i64 z] w fun e w' => e = .returned (.int .i64 (-1)) ∧ Below w.heap.size w w' := by
  have B0 : Hid (Below w.heap.size w (w.alloc (.cells #[.int .i16 c, v] 25))) := (Below.refl w.heap.size w).alloc (Nat.le_refl _) _
  have H := Lib.hid (szStrs_any v L z _ (h.below B0.out) hz hz' hm hs)
  rw [if_neg (by omega)] at H
  obtain ⟨a1, cp, rfl⟩ := h.len
  clear h hm hs
  go_enter Tryd.func4, Tryd.ntmps4
  go_wp2_with fail
  refine H.out.mono ?_
  rintro e w2 ⟨rfl, rfl⟩
  go_wp2
  go_ret
  exact ⟨rfl, B0.out⟩
end Go.Proofs.YtcgcaghmpegehaaDoor
