/-
  Proved here: the law on ValidMeets answers true, for all arguments; no condition.
-/
import Derived.Test.YtibkocbfcdddfaaMeets
import Derived.Test.YtibkocbfcdddfaaOpenM
namespace Go.Proofs.Ytibkocbfcdddfaa
open Go.ChangeShapes Go.WideShapes Go.ChangeAt Go.RowKit

set_option linter.unusedVariables false in
set_option maxRecDepth 100000 in
set_option maxHeartbeats 2000000 in
theorem validMeets_walk {H : Type} {enc : TypeId × Value → H} (w : World) (base : Nat)
    (v0 : Value) (d0 : DataW H) (p0 : List MemPlace) (o0 : Value.okWide Try.prog w .any base 29 v0) (k0 : DataW.Trod enc Try.prog w 0 (fun _ => true) true 29 v0 d0 p0) :
    Calls Try.prog 4 #[v0] w fun e w' => e = .returned (.bool true) ∧ Below w.heap.size w w' := by
  obtain ⟨m, rfl, h8⟩ := open_meets o0
  clear o0 k0
  have HT := Lib.hid fun wx => toMeets_any m wx
  have HS := Lib.hid fun wx => specMeets_any m wx h8
  have HI := Lib.hid fun wx => implMeets_any m wx h8
  generalize meetsB m = r at *
  have hne : (r == r) = true := by simp
  unfold mv at *
  go_enter Try.func4, Try.ntmps4
  have A0 := Lib.hid (mAt_made w 29 m)
  go_wp2_with fail
  refine (HT.out _).mono ?_
  rintro e w1 ⟨rfl, hB⟩
  have B1 := Lib.hid (((Below.refl w.heap.size w).alloc (Nat.le_refl _) _).trans (hB.mono (by simp)))
  have A1 := Lib.hid (A0.out.below hB (by simp))
  have Z1 := Lib.hid (show w.heap.size < w1.heap.size by have := hB.size; simp at this; omega)
  clear hB A0
  go_wp2_with fail
  refine (HS.out _).mono ?_
  rintro e w2 ⟨rfl, hB⟩
  have B2 := Lib.hid (B1.out.trans (hB.mono B1.out.size))
  have A2 := Lib.hid (A1.out.below hB Z1.out)
  clear hB A1 B1
  obtain ⟨c0, c1, c2, c3, c4, c5⟩ := (show _ ∧ _ ∧ _ ∧ _ ∧ _ ∧ _ from ⟨A2.out 0 (by omega), A2.out 1 (by omega), A2.out 2 (by omega), A2.out 3 (by omega), A2.out 4 (by omega), A2.out 5 (by omega)⟩)
  go_wp2_with fail
  refine (HT.out _).mono ?_
  rintro e w3 ⟨rfl, hB⟩
  have B3 := Lib.hid (B2.out.trans (hB.mono B2.out.size))
  clear hB c0 c1 c2 c3 c4 c5
  go_wp2_with fail
  refine (HI.out _).mono ?_
  rintro e w4 ⟨rfl, hB⟩
  have B4 := Lib.hid (B3.out.trans (hB.mono B3.out.size))
  clear hB
  go_wp2
  go_ret
  exact ⟨rfl, B4.out⟩
end Go.Proofs.Ytibkocbfcdddfaa
