/-
  Proved here: the law on MakeMoves answers true, for all arguments; condition: none.
-/
import Derived.Test.YtphinokacggnfaaAtT
import Derived.Test.YtphinokacggnfaaAtU
import Derived.Test.YtphinokacggnfaaBox5
import Derived.Test.YtphinokacggnfaaMvS
import Derived.Test.YtphinokacggnfaaPlaceA
namespace Go.Proofs.Ytphinokacggnfaa
open Go.ChangeShapes Go.WideShapes Go.ChangeAt Go.RowKit

set_option linter.unusedVariables false in
set_option maxRecDepth 100000 in
set_option maxHeartbeats 8000000 in
theorem makeMoves_walk {H : Type} {enc : TypeId × Value → H} (w : World) (base : Nat)
    (v0 : Value) (d0 : DataW H) (p0 : List MemPlace) (o0 : Value.okWide Try.prog w .any base 30 v0) (k0 : DataW.Trod enc Try.prog w 0 (fun _ => true) true 30 v0 d0 p0)
    (v1 : Value) (d1 : DataW H) (p1 : List MemPlace) (o1 : Value.okWide Try.prog w .any base 22 v1) (k1 : DataW.Trod enc Try.prog w 0 (fun _ => true) true 22 v1 d1 p1)
    :
    Calls Try.prog 8 #[v0, v1] w fun e w' => e = .returned (.bool true) ∧ Below w.heap.size w w' := by
  obtain ⟨f0, rfl, hf0⟩ := open_places o0
  clear o0 k0
  obtain ⟨zs1, hA1, hm1⟩ := open_argMv o1 k1
  clear o1 k1
  obtain ⟨a1, c1, rfl⟩ := hA1.len
  have HA1 := Lib.hid hA1
  have X0 := Lib.hid (boxp_made w f0)
  have T0 := Lib.hid X0.out.under
  have HM := Lib.hid fun wx => toPlaces_any f0 wx
  by_cases hz1 : (zs1.length : Int) ≤ 1048576
  · have hn1 : zs1.length ≤ 1048576 := by omega
    have Z1q := Lib.hid fun wx hx => szMoveS_any (.slice a1 zs1.length c1) zs1 1048576 wx hx (by omega) (by omega) (by omega)
    have hl1z : ¬ (((1048576 : Int)) - (zs1.length : Int) < 0) := by omega
    have cS := Lib.hid fun v1' wx (g1 : Mvs wx v1' zs1) => specMakeMoves_any f0 v1' zs1 wx g1 hn1 hf0.2 hf0.1
    have cI := Lib.hid fun v1' wx  (g1 : Mvs wx v1' zs1) => implMakeMoves_any f0 v1' zs1 wx g1 hn1 hf0.2 hf0.1
    obtain ⟨F, hFe⟩ : ∃ F, (makeF f0 zs1).1 = F := ⟨_, rfl⟩
    obtain ⟨C1, hC1e⟩ : ∃ F, (makeF f0 zs1).2 = F := ⟨_, rfl⟩
    rw [hFe, hC1e] at cS cI
    clear hFe hC1e hA1
    have hne1 : (C1 != C1) = false := by simp
    unfold pval at *
    go_enter Try.func8, Try.ntmps8
    go_wp2_with fail
    refine (Z1q.out _ (HA1.out.below T0.out)).mono ?_
    rintro e w0 ⟨rfl, rfl⟩
    obtain ⟨c0, c1, c2, c3, c4, _, _⟩ := X0.out
    go_wp2_with fail
    refine (HM.out _).mono ?_
    rintro e w1 ⟨rfl, hB⟩
    have T1 := Lib.hid (T0.out.trans (hB.mono T0.out.size))
    have Z1' := Lib.hid hB.size
    have X1 := Lib.hid (boxp_below X0.out hB)
    clear hB c0 c1 c2 c3 c4 X0
    go_wp2_with fail
    refine (toMoveS_any _ zs1 _ (HA1.out.below T1.out) hn1).mono ?_
    rintro e w2 ⟨s1, rfl, own, hB⟩
    have T2 := Lib.hid (T1.out.trans (hB.mono T1.out.size))
    have Z2' := Lib.hid hB.size
    have X2 := Lib.hid (boxp_below X1.out hB)
    have S1_2 := Lib.hid own
    clear hB own X1
    go_wp2_with fail
    refine (cS.out s1 w2 S1_2.out.rel).mono ?_
    rintro e w3 ⟨rfl, hB⟩
    have T3 := Lib.hid (T2.out.trans (hB.mono T2.out.size))
    have Z3' := Lib.hid hB.size
    have X3 := Lib.hid (boxp_below X2.out hB)
    clear hB S1_2 X2
    obtain ⟨w4, hw⟩ : ∃ wq, wq = (w3.alloc (.cells #[.int .i32 (F 0), .int .i32 (F 1), .int .i32 (F 2), .int .i32 (F 3), .int .i32 (F 4)] 31)) := ⟨_, rfl⟩
    have hB : Below w3.heap.size w3 w4 := by rw [hw]; exact (Below.refl _ _).alloc (Nat.le_refl _) _
    have own : PlAt w4 w3.heap.size F := by rw [hw]; exact plat_made _ _ F
    have T4 := Lib.hid (T3.out.trans (hB.mono T3.out.size))
    have Z4' := Lib.hid hB.size
    have X4 := Lib.hid (boxp_below X3.out hB)
    have PR4 := Lib.hid own
    have HW4 := Lib.hid hw
    clear hB own hw X3
    go_wp2_with fail
    rw [← HW4.out]
    go_wp2_with fail
    refine (toMoveS_any _ zs1 _ (HA1.out.below T4.out) hn1).mono ?_
    rintro e w5 ⟨x1', rfl, own, hB⟩
    have T5 := Lib.hid (T4.out.trans (hB.mono T4.out.size))
    have Z5' := Lib.hid hB.size
    have X5 := Lib.hid (boxp_below X4.out hB)
    have PR5 := Lib.hid (PR4.out.below hB)
    have X1_5 := Lib.hid own
    clear hB PR4 own X4
    obtain ⟨c0, c1, c2, c3, c4, _, _⟩ := X5.out
    go_wp2_with fail
    refine (HM.out _).mono ?_
    rintro e w6 ⟨rfl, hB⟩
    have T6 := Lib.hid (T5.out.trans (hB.mono T5.out.size))
    have Z6' := Lib.hid hB.size
    have X6 := Lib.hid (boxp_below X5.out hB)
    have PR6 := Lib.hid (PR5.out.below hB)
    have X1_6 := Lib.hid (X1_5.out.below hB)
    clear hB PR5 X1_5 c0 c1 c2 c3 c4 X5
    go_wp2_with fail
    refine (cI.out x1' w6  X1_6.out.rel).mono ?_
    rintro e w7 ⟨rfl, hB⟩
    have T7 := Lib.hid (T6.out.trans (hB.mono T6.out.size))
    have Z7' := Lib.hid hB.size
    have X7 := Lib.hid (boxp_below X6.out hB)
    have PR7 := Lib.hid (PR6.out.below hB)
    have X1_7 := Lib.hid (X1_6.out.below hB)
    clear hB PR6 X1_6 X6
    obtain ⟨w8, hw⟩ : ∃ wq, wq = (w7.alloc (.cells #[.int .i32 (F 0), .int .i32 (F 1), .int .i32 (F 2), .int .i32 (F 3), .int .i32 (F 4)] 31)) := ⟨_, rfl⟩
    have hB : Below w7.heap.size w7 w8 := by rw [hw]; exact (Below.refl _ _).alloc (Nat.le_refl _) _
    have own : PlAt w8 w7.heap.size F := by rw [hw]; exact plat_made _ _ F
    have T8 := Lib.hid (T7.out.trans (hB.mono T7.out.size))
    have Z8' := Lib.hid hB.size
    have X8 := Lib.hid (boxp_below X7.out hB)
    have PR8 := Lib.hid (PR7.out.below hB)
    have X1_8 := Lib.hid (X1_7.out.below hB)
    have PG8 := Lib.hid own
    have HW8 := Lib.hid hw
    clear hB own hw PR7 X1_7 X7
    have r0 := PR8.out 0 (by omega)
    have r1 := PR8.out 1 (by omega)
    have r2 := PR8.out 2 (by omega)
    have r3 := PR8.out 3 (by omega)
    have r4 := PR8.out 4 (by omega)
    rw [HW8.out] at r0 r1 r2 r3 r4
    go_wp2_with fail
    rw [← HW8.out]
    clear r0 r1 r2 r3 r4
    refine (eqPlaces_same F _).mono ?_
    rintro e w9 ⟨rfl, hB⟩
    have T9 := Lib.hid (T8.out.trans (hB.mono T8.out.size))
    have X9 := Lib.hid (boxp_below X8.out hB)
    have X1_9 := Lib.hid (X1_8.out.below hB)
    clear hB PR8 PG8 X1_8 X8
    go_wp2_with fail
    refine (toMoveS_any _ zs1 _ (HA1.out.below T9.out) hn1).mono ?_
    rintro e w10 ⟨y1, rfl, own, hB⟩
    have T10 := Lib.hid (T9.out.trans (hB.mono T9.out.size))
    have Z10' := Lib.hid hB.size
    have X10 := Lib.hid (boxp_below X9.out hB)
    have X1_10 := Lib.hid (X1_9.out.below hB)
    have Y10 := Lib.hid own
    clear hB X1_9 own X9
    go_wp2_with fail
    refine (eqMoveS_self x1' y1 zs1 w10 X1_10.out.rel Y10.out.rel (by omega)).mono ?_
    rintro e w11 ⟨rfl, hB⟩
    have T11 := Lib.hid (T10.out.trans (hB.mono T10.out.size))
    have Z11' := Lib.hid hB.size
    have X11 := Lib.hid (boxp_below X10.out hB)
    have X1_11 := Lib.hid (X1_10.out.below hB)
    clear hB X1_10 Y10 X10
    go_wp2_with fail
    go_ret
    exact ⟨rfl, T11.out⟩
  · skip
    have Z1q := Lib.hid fun wx hx => szMoveS_no (.slice a1 zs1.length c1) zs1 1048576 wx hx (by omega) (by omega) (by omega) hm1
    clear hA1
    unfold pval at *
    go_enter Try.func8, Try.ntmps8
    go_wp2_with fail
    refine (Z1q.out _ (HA1.out.below T0.out)).mono ?_
    rintro e w0 ⟨rfl, rfl⟩
    go_wp2_with fail
    go_ret
    exact ⟨rfl, T0.out⟩
end Go.Proofs.Ytphinokacggnfaa
