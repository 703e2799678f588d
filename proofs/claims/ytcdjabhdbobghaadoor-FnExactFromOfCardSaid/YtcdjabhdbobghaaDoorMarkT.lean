/-
  No statement is proved here: how a law marks texts and fabrics and looks at the marks; condition: at most 1048576 texts.
-/
import Derived.Test.YtcdjabhdbobghaaDoorFabW
import Derived.Test.YtcdjabhdbobghaaDoorMkT
import Derived.IntWalk
import Derived.Laws.BytesString
import Derived.Laws.Concat
import Derived.OneCell
namespace Go.Proofs.YtcdjabhdbobghaaDoor
open Go.ChangeShapes Go.WideShapes Go.ChangeAt Go.RowKit

set_option maxRecDepth 100000 in
theorem markFabric_any (c : Int) (v : Value) (zs : List ByteArray) (base : Nat) (w : World) (k : Nat) (h : OwnT w base v zs) (hn : zs.length ≤ 2097152) (hk : 0 < k) (hk' : k ≤ 1000000) :
    Calls Tryd.prog 15 #[.agg #[.int .i16 c, v], .int .i64 (k : Int)] w fun e w' => e = .returned (.int .i64 ((k : Int) + zs.length)) ∧ OwnT w' base v (mtl k zs.length) ∧ w.grownBy w' v.ownBlock := by
  have A0 : Below w.heap.size w (w.alloc (.cells #[.int .i16 c, v] 31)) := (Below.refl w.heap.size w).alloc (Nat.le_refl _) _
  have H := Lib.hid (markStrs_any v zs base _ k (h.below A0) hn hk hk')
  have G0 := Lib.hid A0
  obtain ⟨a1, cp, rfl⟩ := h.strs.len
  clear h A0
  go_enter Tryd.func15, Tryd.ntmps15
  go_wp2_with fail
  refine H.out.mono ?_
  rintro e w2 ⟨rfl, own, hg⟩
  have O2 := Lib.hid own
  have G2 := Lib.hid (grown_trans2 (grown_of_below G0.out _) hg)
  clear own hg
  go_wp2
  go_ret
  exact ⟨rfl, O2.out, G2.out⟩
end Go.Proofs.YtcdjabhdbobghaaDoor
