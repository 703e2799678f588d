/-
  Proved here: the law on ValidMoves answers true, for all arguments; condition: none.
-/
import Derived.Test.YtphinokacggnfaaMvV
import Derived.Test.YtphinokacggnfaaMvS
namespace Go.Proofs.Ytphinokacggnfaa
open Go.ChangeShapes Go.WideShapes Go.ChangeAt Go.RowKit

set_option linter.unusedVariables false in
set_option maxRecDepth 100000 in
set_option maxHeartbeats 8000000 in
theorem validMoves_walk {H : Type} {enc : TypeId × Value → H} (w : World) (base : Nat)
    (v0 : Value) (d0 : DataW H) (p0 : List MemPlace) (o0 : Value.okWide Try.prog w .any base 22 v0) (k0 : DataW.Trod enc Try.prog w 0 (fun _ => true) true 22 v0 d0 p0)
    :
    Calls Try.prog 3 #[v0] w fun e w' => e = .returned (.bool true) ∧ Below w.heap.size w w' := by
  obtain ⟨zs0, hA0, hm0⟩ := open_argMv o0 k0
  clear o0 k0
  obtain ⟨a0, c0, rfl⟩ := hA0.len
  have HA0 := Lib.hid hA0
  have T0 := Lib.hid (Below.refl w.heap.size w)
  by_cases hz0 : (zs0.length : Int) ≤ 1048576
  · have hn0 : zs0.length ≤ 1048576 := by omega
    have Z0q := Lib.hid fun wx hx => szMoveS_any (.slice a0 zs0.length c0) zs0 1048576 wx hx (by omega) (by omega) (by omega)
    have hl0z : ¬ (((1048576 : Int)) - (zs0.length : Int) < 0) := by omega
    have cS := Lib.hid fun v0' wx (g0 : Mvs wx v0' zs0) => specMvs_any v0' zs0 wx g0 hn0
    have cI := Lib.hid fun v0' wx  (g0 : Mvs wx v0' zs0) => implMvs_any v0' zs0 wx g0 hn0
    obtain ⟨C0, hC0e⟩ : ∃ F, (isMvs zs0) = F := ⟨_, rfl⟩
    rw [hC0e] at cS cI
    clear hC0e hA0
    have hne0 : (C0 != C0) = false := by simp
    have hne0' : (C0 == C0) = true := by simp
    go_enter Try.func3, Try.ntmps3
    go_wp2_with fail
    refine (Z0q.out _ (HA0.out.below T0.out)).mono ?_
    rintro e w ⟨rfl, rfl⟩
    go_wp2_with fail
    refine (toMoveS_any _ zs0 _ (HA0.out.below T0.out) hn0).mono ?_
    rintro e w1 ⟨s0, rfl, own, hB⟩
    have T1 := Lib.hid (T0.out.trans (hB.mono T0.out.size))
    have Z1' := Lib.hid hB.size
    have S0_1 := Lib.hid own
    clear hB own
    go_wp2_with fail
    refine (cS.out s0 w1 S0_1.out.rel).mono ?_
    rintro e w2 ⟨rfl, hB⟩
    have T2 := Lib.hid (T1.out.trans (hB.mono T1.out.size))
    have Z2' := Lib.hid hB.size
    clear hB S0_1
    go_wp2_with fail
    refine (toMoveS_any _ zs0 _ (HA0.out.below T2.out) hn0).mono ?_
    rintro e w3 ⟨x0', rfl, own, hB⟩
    have T3 := Lib.hid (T2.out.trans (hB.mono T2.out.size))
    have Z3' := Lib.hid hB.size
    have X0_3 := Lib.hid own
    clear hB own
    go_wp2_with fail
    refine (cI.out x0' w3  X0_3.out.rel).mono ?_
    rintro e w4 ⟨rfl, hB⟩
    have T4 := Lib.hid (T3.out.trans (hB.mono T3.out.size))
    have Z4' := Lib.hid hB.size
    have X0_4 := Lib.hid (X0_3.out.below hB)
    clear hB X0_3
    go_wp2_with fail
    refine (toMoveS_any _ zs0 _ (HA0.out.below T4.out) hn0).mono ?_
    rintro e w5 ⟨y0, rfl, own, hB⟩
    have T5 := Lib.hid (T4.out.trans (hB.mono T4.out.size))
    have Z5' := Lib.hid hB.size
    have X0_5 := Lib.hid (X0_4.out.below hB)
    have Y5 := Lib.hid own
    clear hB X0_4 own
    go_wp2_with fail
    refine (eqMoveS_self x0' y0 zs0 w5 X0_5.out.rel Y5.out.rel (by omega)).mono ?_
    rintro e w6 ⟨rfl, hB⟩
    have T6 := Lib.hid (T5.out.trans (hB.mono T5.out.size))
    have Z6' := Lib.hid hB.size
    have X0_6 := Lib.hid (X0_5.out.below hB)
    clear hB X0_5 Y5
    go_wp2_with fail
    go_ret
    exact ⟨rfl, T6.out⟩
  · skip
    have Z0q := Lib.hid fun wx hx => szMoveS_no (.slice a0 zs0.length c0) zs0 1048576 wx hx (by omega) (by omega) (by omega) hm0
    clear hA0
    go_enter Try.func3, Try.ntmps3
    go_wp2_with fail
    refine (Z0q.out _ (HA0.out.below T0.out)).mono ?_
    rintro e w ⟨rfl, rfl⟩
    go_wp2_with fail
    go_ret
    exact ⟨rfl, T0.out⟩
end Go.Proofs.Ytphinokacggnfaa
