/-
  Proved here: the law on PartHeap answers true, for all arguments; condition: none.
-/
import Derived.Test.YtekejhnhkifcfaaPhS
import Derived.Test.YtekejhnhkifcfaaPhI
import Derived.Test.YtekejhnhkifcfaaHpMark
import Derived.Test.YtekejhnhkifcfaaHpHeld
namespace Go.Proofs.Ytekejhnhkifcfaa
open Go.ChangeShapes Go.WideShapes Go.ChangeAt Go.RowKit

set_option linter.unusedVariables false in
set_option maxRecDepth 100000 in
set_option maxHeartbeats 8000000 in
theorem partHeap_walk {H : Type} {enc : TypeId × Value → H} (w : World) (base : Nat)
    (v0 : Value) (d0 : DataW H) (p0 : List MemPlace) (o0 : Value.okWide Try.prog w .any base 22 v0) (k0 : DataW.Trod enc Try.prog w 0 (fun _ => true) true 22 v0 d0 p0)
    (v1 : Value) (d1 : DataW H) (p1 : List MemPlace) (o1 : Value.okWide Try.prog w .any base 2 v1) (k1 : DataW.Trod enc Try.prog w 0 (fun _ => true) true 2 v1 d1 p1)
    :
    Calls Try.prog 4 #[v0, v1] w fun e w' => e = .returned (.bool true) ∧ Below w.heap.size w w' := by
  obtain ⟨x0, x1, x2, x3, x4, x5, x6, x7, rfl, h0, h1, h2, h3, h4, h5, h6, h7⟩ := open8 o0
  clear o0 k0
  obtain ⟨y0, rfl, hy0⟩ := open_one Try.underlying2 o1
  clear o1 k1 hy0
  have hz := bd32_z8 h0 h1 h2 h3 h4 h5 h6 h7
  clear h0 h1 h2 h3 h4 h5 h6 h7
  have hF := (Nat.le_trans (partF_len (z8 x0 x1 x2 x3 x4 x5 x6 x7) y0) (by decide) : (partF (z8 x0 x1 x2 x3 x4 x5 x6 x7) y0).1.length ≤ 2097152)
  have cS := Lib.hid fun wx => specPart_any x0 x1 x2 x3 x4 x5 x6 x7 y0 wx hz
  have cI := Lib.hid fun wx => implPart_any x0 x1 x2 x3 x4 x5 x6 x7 y0 wx
  obtain ⟨F, hFe⟩ : ∃ F, ((partF (z8 x0 x1 x2 x3 x4 x5 x6 x7) y0).1) = F := ⟨_, rfl⟩
  obtain ⟨C0, hC0⟩ : ∃ F, ((partF (z8 x0 x1 x2 x3 x4 x5 x6 x7) y0).2) = F := ⟨_, rfl⟩
  rw [hFe, hC0] at cS cI
  rw [hFe] at hF
  clear hFe hC0 hz
  have hne0 : (C0 != C0) = false := by simp
  have hme : ((1 + 8 * (F.length : Int)) != (1 + 8 * (F.length : Int))) = false := by simp
  have HF := Lib.hid hF
  have hlt1 : ¬ ((1 : Int) + 8 * (F.length : Int) < 0) := by omega
  obtain ⟨W0, hW0⟩ : ∃ W0, W0 = w.alloc (.cells #[.int .i32 x0, .int .i32 x1, .int .i32 x2, .int .i32 x3, .int .i32 x4, .int .i32 x5, .int .i32 x6, .int .i32 x7] 22) := ⟨_, rfl⟩
  have HA := Lib.hid (hW0 ▸ heapAt_alloc w x0 x1 x2 x3 x4 x5 x6 x7 22 : HeapAt W0 w.heap.size 0 (z8 x0 x1 x2 x3 x4 x5 x6 x7))
  have TW := Lib.hid (show Below w.heap.size w W0 by rw [hW0]; go_grown)
  have T0 := Lib.hid (Below.refl (w.heap.size + 1) W0)
  have Z0 := Lib.hid (show w.heap.size + 1 ≤ W0.heap.size by rw [hW0]; simp)
  have HW0 := Lib.hid hW0
  clear hW0
  go_enter Try.func4, Try.ntmps4
  go_wp2_with fail
  rw [← HW0.out]
  have a0 : W0.cell? ⟨w.heap.size, 0, none⟩ = some (.int .i32 x0) := by have := HA.out 0 (by omega); rwa [Nat.zero_add] at this
  have a1 : W0.cell? ⟨w.heap.size, 1, none⟩ = some (.int .i32 x1) := by have := HA.out 1 (by omega); rwa [Nat.zero_add] at this
  have a2 : W0.cell? ⟨w.heap.size, 2, none⟩ = some (.int .i32 x2) := by have := HA.out 2 (by omega); rwa [Nat.zero_add] at this
  have a3 : W0.cell? ⟨w.heap.size, 3, none⟩ = some (.int .i32 x3) := by have := HA.out 3 (by omega); rwa [Nat.zero_add] at this
  have a4 : W0.cell? ⟨w.heap.size, 4, none⟩ = some (.int .i32 x4) := by have := HA.out 4 (by omega); rwa [Nat.zero_add] at this
  have a5 : W0.cell? ⟨w.heap.size, 5, none⟩ = some (.int .i32 x5) := by have := HA.out 5 (by omega); rwa [Nat.zero_add] at this
  have a6 : W0.cell? ⟨w.heap.size, 6, none⟩ = some (.int .i32 x6) := by have := HA.out 6 (by omega); rwa [Nat.zero_add] at this
  have a7 : W0.cell? ⟨w.heap.size, 7, none⟩ = some (.int .i32 x7) := by have := HA.out 7 (by omega); rwa [Nat.zero_add] at this
  go_wp2_with fail
  refine (toHeap_any x0 x1 x2 x3 x4 x5 x6 x7 _).mono ?_
  rintro e w1 ⟨rfl, hB⟩
  have T1 := Lib.hid (T0.out.trans (hB.mono (Nat.le_trans Z0.out T0.out.size)))
  clear hB  a0 a1 a2 a3 a4 a5 a6 a7
  go_wp2_with fail
  refine (cS.out w1).mono ?_
  rintro e w2 ⟨r0, rfl, own, hB⟩
  have T2 := Lib.hid (T1.out.trans (hB.mono (Nat.le_trans Z0.out T1.out.size)))
  have R2 := Lib.hid own
  have NR := Lib.hid (show ∀ k, (r0).ownBlock = some k → w1.heap.size ≤ k ∧ k < w2.heap.size from own.lt)
  have ZA := Lib.hid hB.size
  clear hB  own
  have a0 : w2.cell? ⟨w.heap.size, 0, none⟩ = some (.int .i32 x0) := by have := (HA.out.below T2.out (by omega)) 0 (by omega); rwa [Nat.zero_add] at this
  have a1 : w2.cell? ⟨w.heap.size, 1, none⟩ = some (.int .i32 x1) := by have := (HA.out.below T2.out (by omega)) 1 (by omega); rwa [Nat.zero_add] at this
  have a2 : w2.cell? ⟨w.heap.size, 2, none⟩ = some (.int .i32 x2) := by have := (HA.out.below T2.out (by omega)) 2 (by omega); rwa [Nat.zero_add] at this
  have a3 : w2.cell? ⟨w.heap.size, 3, none⟩ = some (.int .i32 x3) := by have := (HA.out.below T2.out (by omega)) 3 (by omega); rwa [Nat.zero_add] at this
  have a4 : w2.cell? ⟨w.heap.size, 4, none⟩ = some (.int .i32 x4) := by have := (HA.out.below T2.out (by omega)) 4 (by omega); rwa [Nat.zero_add] at this
  have a5 : w2.cell? ⟨w.heap.size, 5, none⟩ = some (.int .i32 x5) := by have := (HA.out.below T2.out (by omega)) 5 (by omega); rwa [Nat.zero_add] at this
  have a6 : w2.cell? ⟨w.heap.size, 6, none⟩ = some (.int .i32 x6) := by have := (HA.out.below T2.out (by omega)) 6 (by omega); rwa [Nat.zero_add] at this
  have a7 : w2.cell? ⟨w.heap.size, 7, none⟩ = some (.int .i32 x7) := by have := (HA.out.below T2.out (by omega)) 7 (by omega); rwa [Nat.zero_add] at this
  go_wp2_with fail
  refine (toHeap_any x0 x1 x2 x3 x4 x5 x6 x7 _).mono ?_
  rintro e w3 ⟨rfl, hB⟩
  have T3 := Lib.hid (T2.out.trans (hB.mono (Nat.le_trans Z0.out T2.out.size)))
  have R3 := Lib.hid (R2.out.below hB)
  have ZB := Lib.hid hB.size
  clear hB R2 a0 a1 a2 a3 a4 a5 a6 a7
  go_wp2_with fail
  refine (cI.out w3).mono ?_
  rintro e w4 ⟨g0, rfl, own, hB⟩
  have T4 := Lib.hid (T3.out.trans (hB.mono (Nat.le_trans Z0.out T3.out.size)))
  have R4 := Lib.hid (R3.out.below hB)
  have G4 := Lib.hid own
  have NG := Lib.hid (show ∀ k, (g0).ownBlock = some k → w3.heap.size ≤ k ∧ k < w4.heap.size from own.lt)
  clear hB R3 own
  have PRG := Lib.hid (apart_of (v1 := r0) (v2 := g0) (B := w2.heap.size) (fun k hk => (NR.out k hk).2) (fun k hk => by have h1 := (NG.out k hk).1; have h2 := ZB.out; omega))
  go_wp2_with fail
  refine (eqHeapS_self g0 r0 F w4 G4.out.rel R4.out.rel HF.out).mono ?_
  rintro e w5 ⟨rfl, hB⟩
  have T5 := Lib.hid (T4.out.trans (hB.mono (Nat.le_trans Z0.out T4.out.size)))
  have R5 := Lib.hid (R4.out.below hB)
  have G5 := Lib.hid (G4.out.below hB)
  clear hB R4 G4 
  go_wp2_with fail
  refine (markHp_any g0 F _ w5 1 G5.out HF.out (by omega) (by omega)).mono ?_
  rintro e w6 ⟨rfl, own, hg⟩
  have T6 := Lib.hid (T5.out.grown hg (Nat.le_trans Z0.out T5.out.size) fun k hk => by have := (NG.out k hk).1; have := T3.out.size; have := Z0.out; omega)
  have R6 := Lib.hid (R5.out.kept hg PRG.out.1)
  have G6 := Lib.hid own
  clear hg own R5 G5
  go_wp2_with fail
  refine (heldHp_any g0 F.length w6 1 G6.out.rel HF.out (by omega) (by omega)).mono ?_
  rintro e w7 ⟨rfl, hB⟩
  have T7 := Lib.hid (T6.out.trans (hB.mono (Nat.le_trans Z0.out T6.out.size)))
  have R7 := Lib.hid (R6.out.below hB)
  have G7 := Lib.hid (G6.out.below hB)
  clear hB R6 G6 
  have a0 : w7.cell? ⟨w.heap.size, 0, none⟩ = some (.int .i32 x0) := by have := (HA.out.below T7.out (by omega)) 0 (by omega); rwa [Nat.zero_add] at this
  have a1 : w7.cell? ⟨w.heap.size, 1, none⟩ = some (.int .i32 x1) := by have := (HA.out.below T7.out (by omega)) 1 (by omega); rwa [Nat.zero_add] at this
  have a2 : w7.cell? ⟨w.heap.size, 2, none⟩ = some (.int .i32 x2) := by have := (HA.out.below T7.out (by omega)) 2 (by omega); rwa [Nat.zero_add] at this
  have a3 : w7.cell? ⟨w.heap.size, 3, none⟩ = some (.int .i32 x3) := by have := (HA.out.below T7.out (by omega)) 3 (by omega); rwa [Nat.zero_add] at this
  have a4 : w7.cell? ⟨w.heap.size, 4, none⟩ = some (.int .i32 x4) := by have := (HA.out.below T7.out (by omega)) 4 (by omega); rwa [Nat.zero_add] at this
  have a5 : w7.cell? ⟨w.heap.size, 5, none⟩ = some (.int .i32 x5) := by have := (HA.out.below T7.out (by omega)) 5 (by omega); rwa [Nat.zero_add] at this
  have a6 : w7.cell? ⟨w.heap.size, 6, none⟩ = some (.int .i32 x6) := by have := (HA.out.below T7.out (by omega)) 6 (by omega); rwa [Nat.zero_add] at this
  have a7 : w7.cell? ⟨w.heap.size, 7, none⟩ = some (.int .i32 x7) := by have := (HA.out.below T7.out (by omega)) 7 (by omega); rwa [Nat.zero_add] at this
  go_wp2_with fail
  refine (toHeap_any x0 x1 x2 x3 x4 x5 x6 x7 _).mono ?_
  rintro e w8 ⟨rfl, hB⟩
  have T8 := Lib.hid (T7.out.trans (hB.mono (Nat.le_trans Z0.out T7.out.size)))
  have R8 := Lib.hid (R7.out.below hB)
  have G8 := Lib.hid (G7.out.below hB)
  clear hB R7 G7 a0 a1 a2 a3 a4 a5 a6 a7
  go_wp2_with fail
  refine (cI.out w8).mono ?_
  rintro e w9 ⟨h0, rfl, own, hB⟩
  have T9 := Lib.hid (T8.out.trans (hB.mono (Nat.le_trans Z0.out T8.out.size)))
  have R9 := Lib.hid (R8.out.below hB)
  have G9 := Lib.hid (G8.out.below hB)
  have H9 := Lib.hid own
  clear hB R8 G8 own
  go_wp2_with fail
  refine (eqHeapS_self h0 r0 F w9 H9.out.rel R9.out.rel HF.out).mono ?_
  rintro e w10 ⟨rfl, hB⟩
  have T10 := Lib.hid (T9.out.trans (hB.mono (Nat.le_trans Z0.out T9.out.size)))
  have R10 := Lib.hid (R9.out.below hB)
  have G10 := Lib.hid (G9.out.below hB)
  clear hB R9 G9 H9
  go_wp2_with fail
  refine (heldHp_any g0 F.length w10 1 G10.out.rel HF.out (by omega) (by omega)).mono ?_
  rintro e w11 ⟨rfl, hB⟩
  have T11 := Lib.hid (T10.out.trans (hB.mono (Nat.le_trans Z0.out T10.out.size)))
  have R11 := Lib.hid (R10.out.below hB)
  have G11 := Lib.hid (G10.out.below hB)
  clear hB R10 G10 
  go_wp2_with fail
  go_ret
  exact ⟨rfl, TW.out.trans (T11.out.mono (by omega))⟩
end Go.Proofs.Ytekejhnhkifcfaa
