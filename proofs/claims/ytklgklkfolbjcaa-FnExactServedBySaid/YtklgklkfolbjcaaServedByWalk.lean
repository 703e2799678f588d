/-
  Proved here: the law on ServedBy answers true, for all arguments; condition: none.
-/
import Derived.Test.YtklgklkfolbjcaaLfT
import Derived.Test.YtklgklkfolbjcaaLfK
import Derived.Test.YtklgklkfolbjcaaLtS
import Derived.Test.YtklgklkfolbjcaaOdS
import Derived.Test.YtklgklkfolbjcaaIntsLaw
namespace Go.Proofs.Ytklgklkfolbjcaa
open Go.ChangeShapes Go.WideShapes Go.ChangeAt Go.RowKit

set_option linter.unusedVariables false in
set_option maxRecDepth 100000 in
set_option maxHeartbeats 8000000 in
theorem servedBy_walk {H : Type} {enc : TypeId × Value → H} (w : World) (base : Nat)
    (v0 : Value) (d0 : DataW H) (p0 : List MemPlace) (o0 : Value.okWide Try.prog w .any base 22 v0) (k0 : DataW.Trod enc Try.prog w 0 (fun _ => true) true 22 v0 d0 p0)
    (v1 : Value) (d1 : DataW H) (p1 : List MemPlace) (o1 : Value.okWide Try.prog w .any base 29 v1) (k1 : DataW.Trod enc Try.prog w 0 (fun _ => true) true 29 v1 d1 p1)
    (v2 : Value) (d2 : DataW H) (p2 : List MemPlace) (o2 : Value.okWide Try.prog w .any base 36 v2) (k2 : DataW.Trod enc Try.prog w 0 (fun _ => true) true 36 v2 d2 p2)
    :
    Calls Try.prog 5 #[v0, v1, v2] w fun e w' => e = .returned (.bool true) ∧ Below w.heap.size w w' := by
  obtain ⟨zs0, hA0, hm0⟩ := open_argLt o0 k0
  clear o0 k0
  obtain ⟨a0, c0, rfl⟩ := hA0.len
  obtain ⟨zs1, hA1, hm1⟩ := open_argOd o1 k1
  clear o1 k1
  obtain ⟨a1, c1, rfl⟩ := hA1.len
  obtain ⟨zs2, hA2⟩ := open_arg o2 k2
  clear o2 k2
  obtain ⟨a2, c2, rfl⟩ := hA2.len
  have HA0 := Lib.hid hA0
  have HA1 := Lib.hid hA1
  have HA2 := Lib.hid hA2
  have T0 := Lib.hid (Below.refl w.heap.size w)
  by_cases hn2 : zs2.length ≤ 1048576
  · skip
    by_cases hz0 : (zs0.length : Int) ≤ 1048576
    · have hn0 : zs0.length ≤ 1048576 := by omega
      by_cases hz1 : (zs1.length : Int) ≤ 1048576 - (zs0.length : Int)
      · have hn1 : zs1.length ≤ 1048576 := by omega
        have Z0q := Lib.hid fun wx hx => szLotS_any (.slice a0 zs0.length c0) zs0 1048576 wx hx (by omega) (by omega) (by omega)
        have hl0z : ¬ (((1048576 : Int)) - (zs0.length : Int) < 0) := by omega
        have Z1q := Lib.hid fun wx hx => szOrderS_any (.slice a1 zs1.length c1) zs1 ((1048576 : Int) - (zs0.length : Int)) wx hx (by omega) (by omega) (by omega)
        have hl1z : ¬ (((1048576 : Int) - (zs0.length : Int)) - (zs1.length : Int) < 0) := by omega
        have hl2' : ¬ ((1048576 : Int) < (zs2.length : Int)) := by omega
        have cS := Lib.hid fun v0' v1' v2' wx (g0 : Lts wx v0' zs0) (g1 : Ods wx v1' zs1) (g2 : Ints wx v2' zs2) => specServed_any v0' v1' v2' zs0 zs1 zs2 wx g0 g1 g2 hn0 hn1 hn2
        have cI := Lib.hid fun v0' v1' v2' wx  (g0 : Lts wx v0' zs0) (g1 : Ods wx v1' zs1) (g2 : Ints wx v2' zs2) => implServed_any v0' v1' v2' zs0 zs1 zs2 wx g0 g1 g2 hn0 hn1 hn2
        obtain ⟨C0, hC0e⟩ : ∃ F, (servedF zs0 zs1 zs2).1 = F := ⟨_, rfl⟩
        obtain ⟨C1, hC1e⟩ : ∃ F, (servedF zs0 zs1 zs2).2 = F := ⟨_, rfl⟩
        rw [hC0e, hC1e] at cS cI
        clear hC0e hC1e hA0 hA1 hA2
        have hne0 : (C0 != C0) = false := by simp
        have hne0' : (C0 == C0) = true := by simp
        have hne1 : (C1 != C1) = false := by simp
        go_enter Try.func5, Try.ntmps5
        go_wp2_with fail
        refine (Z0q.out _ (HA0.out.below T0.out)).mono ?_
        rintro e w ⟨rfl, rfl⟩
        go_wp2_with fail
        refine (Z1q.out _ (HA1.out.below T0.out)).mono ?_
        rintro e w ⟨rfl, rfl⟩
        go_wp2_with fail
        refine (toLotS_any _ zs0 _ (HA0.out.below T0.out) hn0).mono ?_
        rintro e w1 ⟨s0, rfl, own, hB⟩
        have T1 := Lib.hid (T0.out.trans (hB.mono T0.out.size))
        have Z1' := Lib.hid hB.size
        have S0_1 := Lib.hid own
        clear hB own
        go_wp2_with fail
        refine (toOrderS_any _ zs1 _ (HA1.out.below T1.out) hn1).mono ?_
        rintro e w2 ⟨s1, rfl, own, hB⟩
        have T2 := Lib.hid (T1.out.trans (hB.mono T1.out.size))
        have Z2' := Lib.hid hB.size
        have S0_2 := Lib.hid (S0_1.out.below hB)
        have S1_2 := Lib.hid own
        clear hB S0_1 own
        go_wp2_with fail
        refine (toInts_any _ zs2 _ (HA2.out.below T2.out) hn2).mono ?_
        rintro e w3 ⟨s2, rfl, own, hB⟩
        have T3 := Lib.hid (T2.out.trans (hB.mono T2.out.size))
        have Z3' := Lib.hid hB.size
        have S0_3 := Lib.hid (S0_2.out.below hB)
        have S1_3 := Lib.hid (S1_2.out.below hB)
        have S2_3 := Lib.hid own
        clear hB S0_2 S1_2 own
        go_wp2_with fail
        refine (cS.out s0 s1 s2 w3 S0_3.out.rel S1_3.out.rel S2_3.out.ints).mono ?_
        rintro e w4 ⟨rfl, hB⟩
        have T4 := Lib.hid (T3.out.trans (hB.mono T3.out.size))
        have Z4' := Lib.hid hB.size
        clear hB S0_3 S1_3 S2_3
        go_wp2_with fail
        refine (toLotS_any _ zs0 _ (HA0.out.below T4.out) hn0).mono ?_
        rintro e w5 ⟨x0', rfl, own, hB⟩
        have T5 := Lib.hid (T4.out.trans (hB.mono T4.out.size))
        have Z5' := Lib.hid hB.size
        have X0_5 := Lib.hid own
        clear hB own
        go_wp2_with fail
        refine (toOrderS_any _ zs1 _ (HA1.out.below T5.out) hn1).mono ?_
        rintro e w6 ⟨x1', rfl, own, hB⟩
        have T6 := Lib.hid (T5.out.trans (hB.mono T5.out.size))
        have Z6' := Lib.hid hB.size
        have X0_6 := Lib.hid (X0_5.out.below hB)
        have X1_6 := Lib.hid own
        clear hB X0_5 own
        go_wp2_with fail
        refine (toInts_any _ zs2 _ (HA2.out.below T6.out) hn2).mono ?_
        rintro e w7 ⟨x2', rfl, own, hB⟩
        have T7 := Lib.hid (T6.out.trans (hB.mono T6.out.size))
        have Z7' := Lib.hid hB.size
        have X0_7 := Lib.hid (X0_6.out.below hB)
        have X1_7 := Lib.hid (X1_6.out.below hB)
        have X2_7 := Lib.hid own
        clear hB X0_6 X1_6 own
        go_wp2_with fail
        refine (cI.out x0' x1' x2' w7  X0_7.out.rel X1_7.out.rel X2_7.out.ints).mono ?_
        rintro e w8 ⟨rfl, hB⟩
        have T8 := Lib.hid (T7.out.trans (hB.mono T7.out.size))
        have Z8' := Lib.hid hB.size
        have X0_8 := Lib.hid (X0_7.out.below hB)
        have X1_8 := Lib.hid (X1_7.out.below hB)
        have X2_8 := Lib.hid (X2_7.out.below hB)
        clear hB X0_7 X1_7 X2_7
        go_wp2_with fail
        refine (toLotS_any _ zs0 _ (HA0.out.below T8.out) hn0).mono ?_
        rintro e w9 ⟨y0, rfl, own, hB⟩
        have T9 := Lib.hid (T8.out.trans (hB.mono T8.out.size))
        have Z9' := Lib.hid hB.size
        have X0_9 := Lib.hid (X0_8.out.below hB)
        have X1_9 := Lib.hid (X1_8.out.below hB)
        have X2_9 := Lib.hid (X2_8.out.below hB)
        have Y9 := Lib.hid own
        clear hB X0_8 X1_8 X2_8 own
        go_wp2_with fail
        refine (eqLotS_self x0' y0 zs0 w9 X0_9.out.rel Y9.out.rel (by omega)).mono ?_
        rintro e w10 ⟨rfl, hB⟩
        have T10 := Lib.hid (T9.out.trans (hB.mono T9.out.size))
        have Z10' := Lib.hid hB.size
        have X0_10 := Lib.hid (X0_9.out.below hB)
        have X1_10 := Lib.hid (X1_9.out.below hB)
        have X2_10 := Lib.hid (X2_9.out.below hB)
        clear hB X0_9 X1_9 X2_9 Y9
        go_wp2_with fail
        refine (toOrderS_any _ zs1 _ (HA1.out.below T10.out) hn1).mono ?_
        rintro e w11 ⟨y1, rfl, own, hB⟩
        have T11 := Lib.hid (T10.out.trans (hB.mono T10.out.size))
        have Z11' := Lib.hid hB.size
        have X0_11 := Lib.hid (X0_10.out.below hB)
        have X1_11 := Lib.hid (X1_10.out.below hB)
        have X2_11 := Lib.hid (X2_10.out.below hB)
        have Y11 := Lib.hid own
        clear hB X0_10 X1_10 X2_10 own
        go_wp2_with fail
        refine (eqOrderS_self x1' y1 zs1 w11 X1_11.out.rel Y11.out.rel (by omega)).mono ?_
        rintro e w12 ⟨rfl, hB⟩
        have T12 := Lib.hid (T11.out.trans (hB.mono T11.out.size))
        have Z12' := Lib.hid hB.size
        have X0_12 := Lib.hid (X0_11.out.below hB)
        have X1_12 := Lib.hid (X1_11.out.below hB)
        have X2_12 := Lib.hid (X2_11.out.below hB)
        clear hB X0_11 X1_11 X2_11 Y11
        go_wp2_with fail
        refine (toInts_any _ zs2 _ (HA2.out.below T12.out) hn2).mono ?_
        rintro e w13 ⟨y2, rfl, own, hB⟩
        have T13 := Lib.hid (T12.out.trans (hB.mono T12.out.size))
        have Z13' := Lib.hid hB.size
        have X0_13 := Lib.hid (X0_12.out.below hB)
        have X1_13 := Lib.hid (X1_12.out.below hB)
        have X2_13 := Lib.hid (X2_12.out.below hB)
        have Y13 := Lib.hid own
        clear hB X0_12 X1_12 X2_12 own
        go_wp2_with fail
        refine (eqSelf_any x2' y2 zs2 w13 X2_13.out.ints Y13.out.ints (by omega)).mono ?_
        rintro e w14 ⟨rfl, hB⟩
        have T14 := Lib.hid (T13.out.trans (hB.mono T13.out.size))
        have Z14' := Lib.hid hB.size
        have X0_14 := Lib.hid (X0_13.out.below hB)
        have X1_14 := Lib.hid (X1_13.out.below hB)
        have X2_14 := Lib.hid (X2_13.out.below hB)
        clear hB X0_13 X1_13 X2_13 Y13
        go_wp2_with fail
        go_ret
        exact ⟨rfl, T14.out⟩
      · skip
        have Z0q := Lib.hid fun wx hx => szLotS_any (.slice a0 zs0.length c0) zs0 1048576 wx hx (by omega) (by omega) (by omega)
        have hl0z : ¬ (((1048576 : Int)) - (zs0.length : Int) < 0) := by omega
        have Z1q := Lib.hid fun wx hx => szOrderS_no (.slice a1 zs1.length c1) zs1 ((1048576 : Int) - (zs0.length : Int)) wx hx (by omega) (by omega) (by omega) hm1
        have hl2' : ¬ ((1048576 : Int) < (zs2.length : Int)) := by omega
        clear hA0 hA1 hA2
        go_enter Try.func5, Try.ntmps5
        go_wp2_with fail
        refine (Z0q.out _ (HA0.out.below T0.out)).mono ?_
        rintro e w ⟨rfl, rfl⟩
        go_wp2_with fail
        refine (Z1q.out _ (HA1.out.below T0.out)).mono ?_
        rintro e w ⟨rfl, rfl⟩
        go_wp2_with fail
        go_ret
        exact ⟨rfl, T0.out⟩
    · skip
      have Z0q := Lib.hid fun wx hx => szLotS_no (.slice a0 zs0.length c0) zs0 1048576 wx hx (by omega) (by omega) (by omega) hm0
      have hl2' : ¬ ((1048576 : Int) < (zs2.length : Int)) := by omega
      clear hA0 hA1 hA2
      go_enter Try.func5, Try.ntmps5
      go_wp2_with fail
      refine (Z0q.out _ (HA0.out.below T0.out)).mono ?_
      rintro e w ⟨rfl, rfl⟩
      go_wp2_with fail
      go_ret
      exact ⟨rfl, T0.out⟩
  · have hgt : (1048576 : Int) < (zs2.length : Int) := by omega
    clear hA0 hA1 hA2
    go_enter Try.func5, Try.ntmps5
    go_wp2_with fail
    go_ret
    exact ⟨rfl, T0.out⟩
end Go.Proofs.Ytklgklkfolbjcaa
