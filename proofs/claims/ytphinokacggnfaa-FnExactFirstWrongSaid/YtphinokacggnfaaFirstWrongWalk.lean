/-
  Proved here: the law on FirstWrong answers true, for all arguments; condition: none.
-/
import Derived.Test.YtphinokacggnfaaAtT
import Derived.Test.YtphinokacggnfaaAtU
import Derived.Test.YtphinokacggnfaaBox5
import Derived.Test.YtphinokacggnfaaMvS
import Derived.Test.YtphinokacggnfaaPlaceA
namespace Go.Proofs.Ytphinokacggnfaa
open Go.ChangeShapes Go.WideShapes Go.ChangeAt Go.RowKit

set_option linter.unusedVariables false in
set_option maxRecDepth 100000 in
set_option maxHeartbeats 8000000 in
theorem firstWrong_walk {H : Type} {enc : TypeId × Value → H} (w : World) (base : Nat)
    (v0 : Value) (d0 : DataW H) (p0 : List MemPlace) (o0 : Value.okWide Try.prog w .any base 30 v0) (k0 : DataW.Trod enc Try.prog w 0 (fun _ => true) true 30 v0 d0 p0)
    (v1 : Value) (d1 : DataW H) (p1 : List MemPlace) (o1 : Value.okWide Try.prog w .any base 22 v1) (k1 : DataW.Trod enc Try.prog w 0 (fun _ => true) true 22 v1 d1 p1)
    :
    Calls Try.prog 10 #[v0, v1] w fun e w' => e = .returned (.bool true) ∧ Below w.heap.size w w' := by
  obtain ⟨f0, rfl, hf0⟩ := open_places o0
  clear o0 k0
  obtain ⟨zs1, hA1, hm1⟩ := open_argMv o1 k1
  clear o1 k1
  obtain ⟨a1, c1, rfl⟩ := hA1.len
  have HA1 := Lib.hid hA1
  have X0 := Lib.hid (boxp_made w f0)
  have T0 := Lib.hid X0.out.under
  have HM := Lib.hid fun wx => toPlaces_any f0 wx
  by_cases hz1 : (zs1.length : Int) ≤ 1048576
  · have hn1 : zs1.length ≤ 1048576 := by omega
    have Z1q := Lib.hid fun wx hx => szMoveS_any (.slice a1 zs1.length c1) zs1 1048576 wx hx (by omega) (by omega) (by omega)
    have hl1z : ¬ (((1048576 : Int)) - (zs1.length : Int) < 0) := by omega
    have cS := Lib.hid fun v1' wx (g1 : Mvs wx v1' zs1) => specFirstWrong_any f0 v1' zs1 wx g1 hn1 hf0.2 hf0.1
    have cI := Lib.hid fun v1' wx  (g1 : Mvs wx v1' zs1) => implFirstWrong_any f0 v1' zs1 wx g1 hn1 hf0.2 hf0.1
    obtain ⟨C0, hC0e⟩ : ∃ F, (firstF f0 zs1).1 = F := ⟨_, rfl⟩
    obtain ⟨C1, hC1e⟩ : ∃ F, (firstF f0 zs1).2 = F := ⟨_, rfl⟩
    rw [hC0e, hC1e] at cS cI
    clear hC0e hC1e hA1
    have hne0 : (C0 != C0) = false := by simp
    have hne1 : (C1 != C1) = false := by simp
    unfold pval at *
    go_enter Try.func10, Try.ntmps10
    go_wp2_with fail
    refine (Z1q.out _ (HA1.out.below T0.out)).mono ?_
    rintro e w0 ⟨rfl, rfl⟩
    obtain ⟨c0, c1, c2, c3, c4, _, _⟩ := X0.out
    go_wp2_with fail
    refine (HM.out _).mono ?_
    rintro e w1 ⟨rfl, hB⟩
    have T1 := Lib.hid (T0.out.trans (hB.mono T0.out.size))
    have Z1' := Lib.hid hB.size
    have X1 := Lib.hid (boxp_below X0.out hB)
    clear hB c0 c1 c2 c3 c4 X0
    go_wp2_with fail
    refine (toMoveS_any _ zs1 _ (HA1.out.below T1.out) hn1).mono ?_
    rintro e w2 ⟨s1, rfl, own, hB⟩
    have T2 := Lib.hid (T1.out.trans (hB.mono T1.out.size))
    have Z2' := Lib.hid hB.size
    have X2 := Lib.hid (boxp_below X1.out hB)
    have S1_2 := Lib.hid own
    clear hB own X1
    go_wp2_with fail
    refine (cS.out s1 w2 S1_2.out.rel).mono ?_
    rintro e w3 ⟨rfl, hB⟩
    have T3 := Lib.hid (T2.out.trans (hB.mono T2.out.size))
    have Z3' := Lib.hid hB.size
    have X3 := Lib.hid (boxp_below X2.out hB)
    clear hB S1_2 X2
    go_wp2_with fail
    refine (toMoveS_any _ zs1 _ (HA1.out.below T3.out) hn1).mono ?_
    rintro e w4 ⟨x1', rfl, own, hB⟩
    have T4 := Lib.hid (T3.out.trans (hB.mono T3.out.size))
    have Z4' := Lib.hid hB.size
    have X4 := Lib.hid (boxp_below X3.out hB)
    have X1_4 := Lib.hid own
    clear hB own X3
    obtain ⟨c0, c1, c2, c3, c4, _, _⟩ := X4.out
    go_wp2_with fail
    refine (HM.out _).mono ?_
    rintro e w5 ⟨rfl, hB⟩
    have T5 := Lib.hid (T4.out.trans (hB.mono T4.out.size))
    have Z5' := Lib.hid hB.size
    have X5 := Lib.hid (boxp_below X4.out hB)
    have X1_5 := Lib.hid (X1_4.out.below hB)
    clear hB X1_4 c0 c1 c2 c3 c4 X4
    go_wp2_with fail
    refine (cI.out x1' w5  X1_5.out.rel).mono ?_
    rintro e w6 ⟨rfl, hB⟩
    have T6 := Lib.hid (T5.out.trans (hB.mono T5.out.size))
    have Z6' := Lib.hid hB.size
    have X6 := Lib.hid (boxp_below X5.out hB)
    have X1_6 := Lib.hid (X1_5.out.below hB)
    clear hB X1_5 X5
    go_wp2_with fail
    refine (toMoveS_any _ zs1 _ (HA1.out.below T6.out) hn1).mono ?_
    rintro e w7 ⟨y1, rfl, own, hB⟩
    have T7 := Lib.hid (T6.out.trans (hB.mono T6.out.size))
    have Z7' := Lib.hid hB.size
    have X7 := Lib.hid (boxp_below X6.out hB)
    have X1_7 := Lib.hid (X1_6.out.below hB)
    have Y7 := Lib.hid own
    clear hB X1_6 own X6
    go_wp2_with fail
    refine (eqMoveS_self x1' y1 zs1 w7 X1_7.out.rel Y7.out.rel (by omega)).mono ?_
    rintro e w8 ⟨rfl, hB⟩
    have T8 := Lib.hid (T7.out.trans (hB.mono T7.out.size))
    have Z8' := Lib.hid hB.size
    have X8 := Lib.hid (boxp_below X7.out hB)
    have X1_8 := Lib.hid (X1_7.out.below hB)
    clear hB X1_7 Y7 X7
    go_wp2_with fail
    go_ret
    exact ⟨rfl, T8.out⟩
  · skip
    have Z1q := Lib.hid fun wx hx => szMoveS_no (.slice a1 zs1.length c1) zs1 1048576 wx hx (by omega) (by omega) (by omega) hm1
    clear hA1
    unfold pval at *
    go_enter Try.func10, Try.ntmps10
    go_wp2_with fail
    refine (Z1q.out _ (HA1.out.below T0.out)).mono ?_
    rintro e w0 ⟨rfl, rfl⟩
    go_wp2_with fail
    go_ret
    exact ⟨rfl, T0.out⟩
end Go.Proofs.Ytphinokacggnfaa
