/-
  Proved here: the law on MeanLength answers true, for all arguments; no condition.
-/
import Derived.Test.YtekejhnhkifcfaaMeK
namespace Go.Proofs.Ytekejhnhkifcfaa
open Go.RowKit

theorem eqFr_same (x y : Int) (w : World) : Calls Try.prog 23 #[.agg #[.int .i64 x, .int .i64 y], .agg #[.int .i64 x, .int .i64 y]] w fun e w' => e = .returned (.bool true) ∧ Below w.heap.size w w' := by
  have hx : (x != x) = false := by simp
  have hy : (y != y) = false := by simp
  go_enter Try.func23, Try.ntmps23
  go_wp2
  go_ret
  exact ⟨rfl, by go_grown⟩

set_option linter.unusedVariables false in
set_option maxRecDepth 100000 in
set_option maxHeartbeats 4000000 in
theorem meanLength_walk {H : Type} {enc : TypeId × Value → H} (w : World) (base : Nat)
    (v0 : Value) (d0 : DataW H) (p0 : List MemPlace) (o0 : Value.okWide Try.prog w .any base 22 v0) (k0 : DataW.Trod enc Try.prog w 0 (fun _ => true) true 22 v0 d0 p0) :
    Calls Try.prog 6 #[v0] w fun e w' => e = .returned (.bool true) ∧ Below w.heap.size w w' := by
  obtain ⟨x0, x1, x2, x3, x4, x5, x6, x7, rfl, h0, h1, h2, h3, h4, h5, h6, h7⟩ := open8 o0
  clear o0 k0
  have hz := bd32_z8 h0 h1 h2 h3 h4 h5 h6 h7
  clear h0 h1 h2 h3 h4 h5 h6 h7
  have cS := Lib.hid fun wx => specMean_any x0 x1 x2 x3 x4 x5 x6 x7 wx hz
  have cI := Lib.hid fun wx => implMean_any x0 x1 x2 x3 x4 x5 x6 x7 wx
  obtain ⟨C0, hC0⟩ : ∃ F, ((meanF (z8 x0 x1 x2 x3 x4 x5 x6 x7)).1) = F := ⟨_, rfl⟩
  obtain ⟨C1, hC1⟩ : ∃ F, ((meanF (z8 x0 x1 x2 x3 x4 x5 x6 x7)).2.1) = F := ⟨_, rfl⟩
  obtain ⟨C2, hC2⟩ : ∃ F, ((meanF (z8 x0 x1 x2 x3 x4 x5 x6 x7)).2.2) = F := ⟨_, rfl⟩
  rw [hC0, hC1, hC2] at cS cI
  clear hC0 hC1 hC2 hz
  have hne2 : (C2 != C2) = false := by simp
  obtain ⟨W0, hW0⟩ : ∃ W0, W0 = w.alloc (.cells #[.int .i32 x0, .int .i32 x1, .int .i32 x2, .int .i32 x3, .int .i32 x4, .int .i32 x5, .int .i32 x6, .int .i32 x7] 22) := ⟨_, rfl⟩
  have T0 := Lib.hid (show Below w.heap.size w W0 by rw [hW0]; go_grown)
  have HZ := Lib.hid (show w.heap.size < W0.heap.size by rw [hW0]; simp)
  have HA := Lib.hid (hW0 ▸ heapAt_alloc w x0 x1 x2 x3 x4 x5 x6 x7 22 : HeapAt W0 w.heap.size 0 (z8 x0 x1 x2 x3 x4 x5 x6 x7))
  have HW0 := Lib.hid hW0
  clear hW0
  go_enter Try.func6, Try.ntmps6
  go_wp2_with fail
  rw [← HW0.out]
  refine (toHeap_any x0 x1 x2 x3 x4 x5 x6 x7 _).mono ?_
  rintro e w1 ⟨rfl, hB⟩
  have T1 := Lib.hid (T0.out.trans (hB.mono T0.out.size))
  have H1 := Lib.hid (HA.out.below hB HZ.out)
  clear hB
  go_wp2_with fail
  refine (cS.out _).mono ?_
  rintro e w2 ⟨rfl, hB⟩
  have T2 := Lib.hid (T1.out.trans (hB.mono T1.out.size))
  have H2 := H1.out.below hB (H1.out.lt)
  have Z2 := Lib.hid H2.lt
  have A3 : Below w2.heap.size w2 (w2.alloc (.cells #[.int .i64 C0, .int .i64 C1] 38)) := (Below.refl _ _).alloc (Nat.le_refl _) _
  have H3 := H2.below A3 Z2.out
  have a0 := H3 0 (by omega)
  have a1 := H3 1 (by omega)
  have a2 := H3 2 (by omega)
  have a3 := H3 3 (by omega)
  have a4 := H3 4 (by omega)
  have a5 := H3 5 (by omega)
  have a6 := H3 6 (by omega)
  have a7 := H3 7 (by omega)
  simp only [Nat.zero_add, z8] at a0 a1 a2 a3 a4 a5 a6 a7
  have T3 := Lib.hid (T2.out.trans (A3.mono T2.out.size))
  have HH3 := Lib.hid H3
  have f0 : (w2.alloc (.cells #[.int .i64 C0, .int .i64 C1] 38)).cell? ⟨w2.heap.size, 0, none⟩ = some (.int .i64 C0) := by simp [go_sem]
  have f1 : (w2.alloc (.cells #[.int .i64 C0, .int .i64 C1] 38)).cell? ⟨w2.heap.size, 1, none⟩ = some (.int .i64 C1) := by simp [go_sem]
  have F0 := Lib.hid f0
  have F1 := Lib.hid f1
  have Z3 := Lib.hid (show w2.heap.size < (w2.alloc (.cells #[.int .i64 C0, .int .i64 C1] 38)).heap.size by simp)
  clear hB H2 H3 A3 f0 f1
  go_wp2_with fail
  generalize w2.alloc (.cells #[.int .i64 C0, .int .i64 C1] 38) = w3 at *
  generalize w2.heap.size = fb at *
  refine (toHeap_any x0 x1 x2 x3 x4 x5 x6 x7 _).mono ?_
  rintro e w4 ⟨rfl, hB⟩
  have T4 := Lib.hid (T3.out.trans (hB.mono T3.out.size))
  have F40 := Lib.hid (kept hB Z3.out F0.out)
  have F41 := Lib.hid (kept hB Z3.out F1.out)
  have Z4 := Lib.hid (Nat.lt_of_lt_of_le Z3.out hB.size)
  clear hB a0 a1 a2 a3 a4 a5 a6 a7
  go_wp2_with fail
  refine (cI.out _).mono ?_
  rintro e w5 ⟨rfl, hB⟩
  have A6 : Below w5.heap.size w5 (w5.alloc (.cells #[.int .i64 C0, .int .i64 C1] 38)) := (Below.refl _ _).alloc (Nat.le_refl _) _
  have B6 := hB.trans (A6.mono hB.size)
  have T6 := Lib.hid (T4.out.trans (B6.mono T4.out.size))
  have g0 := kept B6 Z4.out F40.out
  have g1 := kept B6 Z4.out F41.out
  clear hB A6 B6
  go_wp2_with fail
  refine (eqFr_same C0 C1 _).mono ?_
  rintro e w7 ⟨rfl, hB⟩
  have T7 := Lib.hid (T6.out.trans (hB.mono T6.out.size))
  clear hB g0 g1
  go_wp2_with fail
  go_ret
  exact ⟨rfl, T7.out⟩
end Go.Proofs.Ytekejhnhkifcfaa
