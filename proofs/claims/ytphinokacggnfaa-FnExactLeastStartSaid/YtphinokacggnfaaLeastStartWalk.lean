/-
  Proved here: the law on LeastStart answers true, for all arguments; condition: none.
-/
import Derived.Test.YtphinokacggnfaaLeastS
import Derived.Test.YtphinokacggnfaaLeastI
import Derived.Test.YtphinokacggnfaaBox5
import Derived.Test.YtphinokacggnfaaMvS
import Derived.Test.YtphinokacggnfaaPlaceL
namespace Go.Proofs.Ytphinokacggnfaa
open Go.ChangeShapes Go.WideShapes Go.ChangeAt Go.RowKit

set_option linter.unusedVariables false in
set_option maxRecDepth 100000 in
set_option maxHeartbeats 8000000 in
theorem leastStart_walk {H : Type} {enc : TypeId × Value → H} (w : World) (base : Nat)
    (v0 : Value) (d0 : DataW H) (p0 : List MemPlace) (o0 : Value.okWide Try.prog w .any base 22 v0) (k0 : DataW.Trod enc Try.prog w 0 (fun _ => true) true 22 v0 d0 p0)
    :
    Calls Try.prog 6 #[v0] w fun e w' => e = .returned (.bool true) ∧ Below w.heap.size w w' := by
  obtain ⟨zs0, hA0, hm0⟩ := open_argMv o0 k0
  clear o0 k0
  obtain ⟨a0, c0, rfl⟩ := hA0.len
  have HA0 := Lib.hid hA0
  have T0 := Lib.hid (Below.refl w.heap.size w)
  by_cases hz0 : (zs0.length : Int) ≤ 1048576
  · have hn0 : zs0.length ≤ 1048576 := by omega
    have Z0q := Lib.hid fun wx hx => szMoveS_any (.slice a0 zs0.length c0) zs0 1048576 wx hx (by omega) (by omega) (by omega)
    have hl0z : ¬ (((1048576 : Int)) - (zs0.length : Int) < 0) := by omega
    have cS := Lib.hid fun v0' wx (g0 : Mvs wx v0' zs0) => specLeast_any v0' zs0 wx g0 hn0
    have cI := Lib.hid fun v0' wx  (g0 : Mvs wx v0' zs0) => implLeast_any v0' zs0 wx g0 hn0
    obtain ⟨F, hFe⟩ : ∃ F, (leastF zs0).1 = F := ⟨_, rfl⟩
    obtain ⟨C1, hC1e⟩ : ∃ F, (leastF zs0).2 = F := ⟨_, rfl⟩
    rw [hFe, hC1e] at cS cI
    clear hFe hC1e hA0
    have hne1 : (C1 != C1) = false := by simp
    unfold pval at *
    go_enter Try.func6, Try.ntmps6
    go_wp2_with fail
    refine (Z0q.out _ (HA0.out.below T0.out)).mono ?_
    rintro e w ⟨rfl, rfl⟩
    go_wp2_with fail
    refine (toMoveS_any _ zs0 _ (HA0.out.below T0.out) hn0).mono ?_
    rintro e w1 ⟨s0, rfl, own, hB⟩
    have T1 := Lib.hid (T0.out.trans (hB.mono T0.out.size))
    have Z1' := Lib.hid hB.size
    have S0_1 := Lib.hid own
    clear hB own
    go_wp2_with fail
    refine (cS.out s0 w1 S0_1.out.rel).mono ?_
    rintro e w2 ⟨rfl, hB⟩
    have T2 := Lib.hid (T1.out.trans (hB.mono T1.out.size))
    have Z2' := Lib.hid hB.size
    clear hB S0_1
    obtain ⟨w3, hw⟩ : ∃ wq, wq = (w2.alloc (.cells #[.int .i32 (F 0), .int .i32 (F 1), .int .i32 (F 2), .int .i32 (F 3), .int .i32 (F 4)] 31)) := ⟨_, rfl⟩
    have hB : Below w2.heap.size w2 w3 := by rw [hw]; exact (Below.refl _ _).alloc (Nat.le_refl _) _
    have own : PlAt w3 w2.heap.size F := by rw [hw]; exact plat_made _ _ F
    have T3 := Lib.hid (T2.out.trans (hB.mono T2.out.size))
    have Z3' := Lib.hid hB.size
    have PR3 := Lib.hid own
    have HW3 := Lib.hid hw
    clear hB own hw
    go_wp2_with fail
    rw [← HW3.out]
    go_wp2_with fail
    refine (toMoveS_any _ zs0 _ (HA0.out.below T3.out) hn0).mono ?_
    rintro e w4 ⟨x0', rfl, own, hB⟩
    have T4 := Lib.hid (T3.out.trans (hB.mono T3.out.size))
    have Z4' := Lib.hid hB.size
    have PR4 := Lib.hid (PR3.out.below hB)
    have X0_4 := Lib.hid own
    clear hB PR3 own
    go_wp2_with fail
    refine (cI.out x0' w4  X0_4.out.rel).mono ?_
    rintro e w5 ⟨rfl, hB⟩
    have T5 := Lib.hid (T4.out.trans (hB.mono T4.out.size))
    have Z5' := Lib.hid hB.size
    have PR5 := Lib.hid (PR4.out.below hB)
    have X0_5 := Lib.hid (X0_4.out.below hB)
    clear hB PR4 X0_4
    obtain ⟨w6, hw⟩ : ∃ wq, wq = (w5.alloc (.cells #[.int .i32 (F 0), .int .i32 (F 1), .int .i32 (F 2), .int .i32 (F 3), .int .i32 (F 4)] 31)) := ⟨_, rfl⟩
    have hB : Below w5.heap.size w5 w6 := by rw [hw]; exact (Below.refl _ _).alloc (Nat.le_refl _) _
    have own : PlAt w6 w5.heap.size F := by rw [hw]; exact plat_made _ _ F
    have T6 := Lib.hid (T5.out.trans (hB.mono T5.out.size))
    have Z6' := Lib.hid hB.size
    have PR6 := Lib.hid (PR5.out.below hB)
    have X0_6 := Lib.hid (X0_5.out.below hB)
    have PG6 := Lib.hid own
    have HW6 := Lib.hid hw
    clear hB own hw PR5 X0_5
    have r0 := PR6.out 0 (by omega)
    have r1 := PR6.out 1 (by omega)
    have r2 := PR6.out 2 (by omega)
    have r3 := PR6.out 3 (by omega)
    have r4 := PR6.out 4 (by omega)
    rw [HW6.out] at r0 r1 r2 r3 r4
    go_wp2_with fail
    rw [← HW6.out]
    clear r0 r1 r2 r3 r4
    refine (eqPlaces_same F _).mono ?_
    rintro e w7 ⟨rfl, hB⟩
    have T7 := Lib.hid (T6.out.trans (hB.mono T6.out.size))
    have X0_7 := Lib.hid (X0_6.out.below hB)
    clear hB PR6 PG6 X0_6
    go_wp2_with fail
    refine (toMoveS_any _ zs0 _ (HA0.out.below T7.out) hn0).mono ?_
    rintro e w8 ⟨y0, rfl, own, hB⟩
    have T8 := Lib.hid (T7.out.trans (hB.mono T7.out.size))
    have Z8' := Lib.hid hB.size
    have X0_8 := Lib.hid (X0_7.out.below hB)
    have Y8 := Lib.hid own
    clear hB X0_7 own
    go_wp2_with fail
    refine (eqMoveS_self x0' y0 zs0 w8 X0_8.out.rel Y8.out.rel (by omega)).mono ?_
    rintro e w9 ⟨rfl, hB⟩
    have T9 := Lib.hid (T8.out.trans (hB.mono T8.out.size))
    have Z9' := Lib.hid hB.size
    have X0_9 := Lib.hid (X0_8.out.below hB)
    clear hB X0_8 Y8
    go_wp2_with fail
    go_ret
    exact ⟨rfl, T9.out⟩
  · skip
    have Z0q := Lib.hid fun wx hx => szMoveS_no (.slice a0 zs0.length c0) zs0 1048576 wx hx (by omega) (by omega) (by omega) hm0
    clear hA0
    unfold pval at *
    go_enter Try.func6, Try.ntmps6
    go_wp2_with fail
    refine (Z0q.out _ (HA0.out.below T0.out)).mono ?_
    rintro e w ⟨rfl, rfl⟩
    go_wp2_with fail
    go_ret
    exact ⟨rfl, T0.out⟩
end Go.Proofs.Ytphinokacggnfaa
