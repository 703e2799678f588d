/-
  No statement is proved here: what a law that answers a fabric asks of memory; condition: at most 1048576 texts.
-/
import Derived.Test.YtilbadnnmhcdoaaDoorFabL
import Derived.Test.YtilbadnnmhcdoaaDoorHdT
namespace Go.Proofs.YtilbadnnmhcdoaaDoor
open Go.ChangeShapes Go.WideShapes Go.ChangeAt Go.RowKit

theorem hb2_far {w W W' : World} {b : Nat} {x y : Value} {row : Option Nat} (h : Hb2 w W b x y) (hg : W.grownBy W' row) (hr : ∀ k, row = some k → b ≠ k ∧ w.heap.size ≤ k) : Hb2 w W' b x y := by
  have hne : some b ≠ row := fun e => (hr b e.symm).1 rfl
  exact ⟨(hg.cell_far ⟨b, 0, none⟩ h.2.2.2 hne).trans h.1, (hg.cell_far ⟨b, 1, none⟩ h.2.2.2 hne).trans h.2.1, h.2.2.1.grown hg h.2.2.1.size (fun k hk => (hr k hk).2), Nat.lt_of_lt_of_le h.2.2.2 hg.size⟩

set_option maxRecDepth 100000 in
theorem heldFabric_any (c : Int) (v : Value) (n : Nat) (w : World) (k : Nat) (h : Strs w v (mtl k n)) (hn : n ≤ 2097152) (hk : 0 < k) (hk' : k ≤ 1000000) :
    Calls Tryd.prog 15 #[.agg #[.int .i16 c, v], .int .i64 (k : Int)] w fun e w' => e = .returned (.int .i64 ((k : Int) + n)) ∧ Below w.heap.size w w' := by
  have A0 : Below w.heap.size w (w.alloc (.cells #[.int .i16 c, v] 27)) := (Below.refl w.heap.size w).alloc (Nat.le_refl _) _
  have H := Lib.hid (heldStrs_any v n _ k (h.below A0) hn hk hk')
  have G0 := Lib.hid A0
  have hlt : ¬ ((k : Int) + (n : Int) < 0) := by omega
  obtain ⟨a1, cp, rfl⟩ := h.len
  clear h A0
  go_enter Tryd.func15, Tryd.ntmps15
  go_wp2_with fail
  refine H.out.mono ?_
  rintro e w2 ⟨rfl, hB⟩
  have T2 := Lib.hid (G0.out.trans (hB.mono G0.out.size))
  clear hB
  go_wp2
  go_ret
  exact ⟨rfl, T2.out⟩
end Go.Proofs.YtilbadnnmhcdoaaDoor
