/-
  Proved here: the law on MedianLength answers true, for all arguments; no condition.
-/
import Derived.Test.YtekejhnhkifcfaaMdK
namespace Go.Proofs.Ytekejhnhkifcfaa
open Go.RowKit

set_option linter.unusedVariables false in
set_option maxRecDepth 100000 in
set_option maxHeartbeats 4000000 in
theorem medianLength_walk {H : Type} {enc : TypeId × Value → H} (w : World) (base : Nat)
    (v0 : Value) (d0 : DataW H) (p0 : List MemPlace) (o0 : Value.okWide Try.prog w .any base 22 v0) (k0 : DataW.Trod enc Try.prog w 0 (fun _ => true) true 22 v0 d0 p0) :
    Calls Try.prog 7 #[v0] w fun e w' => e = .returned (.bool true) ∧ Below w.heap.size w w' := by
  obtain ⟨x0, x1, x2, x3, x4, x5, x6, x7, rfl, h0, h1, h2, h3, h4, h5, h6, h7⟩ := open8 o0
  clear o0 k0
  have hz := bd32_z8 h0 h1 h2 h3 h4 h5 h6 h7
  clear h0 h1 h2 h3 h4 h5 h6 h7
  have cS := Lib.hid fun wx => specMed_any x0 x1 x2 x3 x4 x5 x6 x7 wx hz
  have cI := Lib.hid fun wx => implMed_any x0 x1 x2 x3 x4 x5 x6 x7 wx
  obtain ⟨C0, hC0⟩ : ∃ F, ((medF (z8 x0 x1 x2 x3 x4 x5 x6 x7)).1) = F := ⟨_, rfl⟩
  obtain ⟨C1, hC1⟩ : ∃ F, ((medF (z8 x0 x1 x2 x3 x4 x5 x6 x7)).2) = F := ⟨_, rfl⟩
  rw [hC0, hC1] at cS cI
  clear hC0 hC1 hz
  have hne0 : (C0 != C0) = false := by simp
  have hne1 : (C1 != C1) = false := by simp
  obtain ⟨W0, hW0⟩ : ∃ W0, W0 = w.alloc (.cells #[.int .i32 x0, .int .i32 x1, .int .i32 x2, .int .i32 x3, .int .i32 x4, .int .i32 x5, .int .i32 x6, .int .i32 x7] 22) := ⟨_, rfl⟩
  have T0 := Lib.hid (show Below w.heap.size w W0 by rw [hW0]; go_grown)
  have HZ := Lib.hid (show w.heap.size < W0.heap.size by rw [hW0]; simp)
  have HA := Lib.hid (hW0 ▸ heapAt_alloc w x0 x1 x2 x3 x4 x5 x6 x7 22 : HeapAt W0 w.heap.size 0 (z8 x0 x1 x2 x3 x4 x5 x6 x7))
  have HW0 := Lib.hid hW0
  clear hW0
  go_enter Try.func7, Try.ntmps7
  go_wp2_with fail
  rw [← HW0.out]
  refine (toHeap_any x0 x1 x2 x3 x4 x5 x6 x7 _).mono ?_
  rintro e w1 ⟨rfl, hB⟩
  have T1 := Lib.hid (T0.out.trans (hB.mono T0.out.size))
  have H1 := Lib.hid (HA.out.below hB HZ.out)
  clear hB
  go_wp2_with fail
  refine (cS.out _).mono ?_
  rintro e w2 ⟨rfl, hB⟩
  have T2 := Lib.hid (T1.out.trans (hB.mono T1.out.size))
  have H2 := H1.out.below hB (H1.out.lt)
  have Z2 := Lib.hid H2.lt
  have a0 := H2 0 (by omega)
  have a1 := H2 1 (by omega)
  have a2 := H2 2 (by omega)
  have a3 := H2 3 (by omega)
  have a4 := H2 4 (by omega)
  have a5 := H2 5 (by omega)
  have a6 := H2 6 (by omega)
  have a7 := H2 7 (by omega)
  simp only [Nat.zero_add, z8] at a0 a1 a2 a3 a4 a5 a6 a7
  clear hB H2
  go_wp2_with fail
  refine (toHeap_any x0 x1 x2 x3 x4 x5 x6 x7 _).mono ?_
  rintro e w4 ⟨rfl, hB⟩
  have T4 := Lib.hid (T2.out.trans (hB.mono T2.out.size))
  clear hB a0 a1 a2 a3 a4 a5 a6 a7
  go_wp2_with fail
  refine (cI.out _).mono ?_
  rintro e w5 ⟨rfl, hB⟩
  have T5 := Lib.hid (T4.out.trans (hB.mono T4.out.size))
  clear hB
  go_wp2_with fail
  go_ret
  exact ⟨rfl, T5.out⟩
end Go.Proofs.Ytekejhnhkifcfaa
