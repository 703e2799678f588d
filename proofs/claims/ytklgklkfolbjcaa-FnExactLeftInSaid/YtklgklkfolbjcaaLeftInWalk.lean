/-
  Proved here: the law on LeftIn answers true, for all arguments; condition: none.
-/
import Derived.Test.YtklgklkfolbjcaaLfT
import Derived.Test.YtklgklkfolbjcaaLfK
import Derived.Test.YtklgklkfolbjcaaLtS
import Derived.Test.YtklgklkfolbjcaaOdS
import Derived.Test.YtklgklkfolbjcaaIntsLaw
import Derived.Test.YtklgklkfolbjcaaLtMark
import Derived.Test.YtklgklkfolbjcaaOdMark
namespace Go.Proofs.Ytklgklkfolbjcaa
open Go.ChangeShapes Go.WideShapes Go.ChangeAt Go.RowKit

set_option linter.unusedVariables false in
set_option maxRecDepth 100000 in
set_option maxHeartbeats 8000000 in
theorem leftIn_walk {H : Type} {enc : TypeId × Value → H} (w : World) (base : Nat)
    (v0 : Value) (d0 : DataW H) (p0 : List MemPlace) (o0 : Value.okWide Try.prog w .any base 22 v0) (k0 : DataW.Trod enc Try.prog w 0 (fun _ => true) true 22 v0 d0 p0)
    (v1 : Value) (d1 : DataW H) (p1 : List MemPlace) (o1 : Value.okWide Try.prog w .any base 29 v1) (k1 : DataW.Trod enc Try.prog w 0 (fun _ => true) true 29 v1 d1 p1)
    (v2 : Value) (d2 : DataW H) (p2 : List MemPlace) (o2 : Value.okWide Try.prog w .any base 36 v2) (k2 : DataW.Trod enc Try.prog w 0 (fun _ => true) true 36 v2 d2 p2)
    :
    Calls Try.prog 6 #[v0, v1, v2] w fun e w' => e = .returned (.bool true) ∧ Below w.heap.size w w' := by
  obtain ⟨zs0, hA0, hm0⟩ := open_argLt o0 k0
  clear o0 k0
  obtain ⟨a0, c0, rfl⟩ := hA0.len
  obtain ⟨zs1, hA1, hm1⟩ := open_argOd o1 k1
  clear o1 k1
  obtain ⟨a1, c1, rfl⟩ := hA1.len
  obtain ⟨zs2, hA2⟩ := open_arg o2 k2
  clear o2 k2
  obtain ⟨a2, c2, rfl⟩ := hA2.len
  have HA0 := Lib.hid hA0
  have HA1 := Lib.hid hA1
  have HA2 := Lib.hid hA2
  have T0 := Lib.hid (Below.refl w.heap.size w)
  by_cases hn2 : zs2.length ≤ 1048576
  · skip
    by_cases hz0 : (zs0.length : Int) ≤ 1048576
    · have hn0 : zs0.length ≤ 1048576 := by omega
      by_cases hz1 : (zs1.length : Int) ≤ 1048576 - (zs0.length : Int)
      · have hn1 : zs1.length ≤ 1048576 := by omega
        have Z0q := Lib.hid fun wx hx => szLotS_any (.slice a0 zs0.length c0) zs0 1048576 wx hx (by omega) (by omega) (by omega)
        have hl0z : ¬ (((1048576 : Int)) - (zs0.length : Int) < 0) := by omega
        have Z1q := Lib.hid fun wx hx => szOrderS_any (.slice a1 zs1.length c1) zs1 ((1048576 : Int) - (zs0.length : Int)) wx hx (by omega) (by omega) (by omega)
        have hl1z : ¬ (((1048576 : Int) - (zs0.length : Int)) - (zs1.length : Int) < 0) := by omega
        have hl2' : ¬ ((1048576 : Int) < (zs2.length : Int)) := by omega
        have hF := leftF_len (T := zs0) (os := zs1) (ps := zs2)
        have cS := Lib.hid fun v0' v1' v2' wx (g0 : Lts wx v0' zs0) (g1 : Ods wx v1' zs1) (g2 : Ints wx v2' zs2) => specLeftIn_any v0' v1' v2' zs0 zs1 zs2 wx g0 g1 g2 hn0 hn1 hn2
        have cI := Lib.hid fun v0' v1' v2' wx  (g0 : Lts wx v0' zs0) (g1 : Ods wx v1' zs1) (g2 : Ints wx v2' zs2) => implLeftIn_any v0' v1' v2' zs0 zs1 zs2 wx g0 g1 g2 hn0 hn1 hn2
        obtain ⟨F, hFe⟩ : ∃ F, (leftF zs0 zs1 zs2).1 = F := ⟨_, rfl⟩
        obtain ⟨C1, hC1e⟩ : ∃ F, (leftF zs0 zs1 zs2).2 = F := ⟨_, rfl⟩
        rw [hFe, hC1e] at cS cI
        rw [hFe] at hF
        clear hFe hC1e hA0 hA1 hA2
        have hne1 : (C1 != C1) = false := by simp
        have hme : ((1 + (F.length : Int)) != (1 + (F.length : Int))) = false := by simp
        have HF := Lib.hid hF
        have hlt0 : ¬ ((1 : Int) + 2 * (zs0.length : Int) + 2 * (zs1.length : Int) + (zs2.length : Int) < 0) := by omega
        have hlt1 : ¬ ((1 : Int) + (F.length : Int) < 0) := by omega
        go_enter Try.func6, Try.ntmps6
        go_wp2_with fail
        refine (Z0q.out _ (HA0.out.below T0.out)).mono ?_
        rintro e w ⟨rfl, rfl⟩
        go_wp2_with fail
        refine (Z1q.out _ (HA1.out.below T0.out)).mono ?_
        rintro e w ⟨rfl, rfl⟩
        go_wp2_with fail
        refine (toLotS_any _ zs0 _ (HA0.out.below T0.out) hn0).mono ?_
        rintro e w1 ⟨s0, rfl, own, hB⟩
        have T1 := Lib.hid (T0.out.trans (hB.mono T0.out.size))
        have Z1' := Lib.hid hB.size
        have S0_1 := Lib.hid own
        clear hB own
        go_wp2_with fail
        refine (toOrderS_any _ zs1 _ (HA1.out.below T1.out) hn1).mono ?_
        rintro e w2 ⟨s1, rfl, own, hB⟩
        have T2 := Lib.hid (T1.out.trans (hB.mono T1.out.size))
        have Z2' := Lib.hid hB.size
        have S0_2 := Lib.hid (S0_1.out.below hB)
        have S1_2 := Lib.hid own
        clear hB S0_1 own
        go_wp2_with fail
        refine (toInts_any _ zs2 _ (HA2.out.below T2.out) hn2).mono ?_
        rintro e w3 ⟨s2, rfl, own, hB⟩
        have T3 := Lib.hid (T2.out.trans (hB.mono T2.out.size))
        have Z3' := Lib.hid hB.size
        have S0_3 := Lib.hid (S0_2.out.below hB)
        have S1_3 := Lib.hid (S1_2.out.below hB)
        have S2_3 := Lib.hid own
        clear hB S0_2 S1_2 own
        go_wp2_with fail
        refine (cS.out s0 s1 s2 w3 S0_3.out.rel S1_3.out.rel S2_3.out.ints).mono ?_
        rintro e w4 ⟨r0, rfl, own, hB⟩
        have T4 := Lib.hid (T3.out.trans (hB.mono T3.out.size))
        have Z4' := Lib.hid hB.size
        have R4 := Lib.hid own
        have NR := Lib.hid (show ∀ k, (r0).ownBlock = some k → w3.heap.size ≤ k ∧ k < w4.heap.size from own.lt)
        clear hB S0_3 S1_3 S2_3 own
        go_wp2_with fail
        refine (toLotS_any _ zs0 _ (HA0.out.below T4.out) hn0).mono ?_
        rintro e w5 ⟨x0', rfl, own, hB⟩
        have T5 := Lib.hid (T4.out.trans (hB.mono T4.out.size))
        have Z5' := Lib.hid hB.size
        have R5 := Lib.hid (R4.out.below hB)
        have X0_5 := Lib.hid own
        have NX0_ := Lib.hid (show ∀ k, (x0').ownBlock = some k → w4.heap.size ≤ k ∧ k < w5.heap.size from own.lt)
        clear hB R4 own
        go_wp2_with fail
        refine (toOrderS_any _ zs1 _ (HA1.out.below T5.out) hn1).mono ?_
        rintro e w6 ⟨x1', rfl, own, hB⟩
        have T6 := Lib.hid (T5.out.trans (hB.mono T5.out.size))
        have Z6' := Lib.hid hB.size
        have R6 := Lib.hid (R5.out.below hB)
        have X0_6 := Lib.hid (X0_5.out.below hB)
        have X1_6 := Lib.hid own
        have NX1_ := Lib.hid (show ∀ k, (x1').ownBlock = some k → w5.heap.size ≤ k ∧ k < w6.heap.size from own.lt)
        clear hB R5 X0_5 own
        go_wp2_with fail
        refine (toInts_any _ zs2 _ (HA2.out.below T6.out) hn2).mono ?_
        rintro e w7 ⟨x2', rfl, own, hB⟩
        have T7 := Lib.hid (T6.out.trans (hB.mono T6.out.size))
        have Z7' := Lib.hid hB.size
        have R7 := Lib.hid (R6.out.below hB)
        have X0_7 := Lib.hid (X0_6.out.below hB)
        have X1_7 := Lib.hid (X1_6.out.below hB)
        have X2_7 := Lib.hid own
        have NX2_ := Lib.hid (show ∀ k, (x2').ownBlock = some k → w6.heap.size ≤ k ∧ k < w7.heap.size from own.lt)
        clear hB R6 X0_6 X1_6 own
        go_wp2_with fail
        refine (cI.out x0' x1' x2' w7  X0_7.out.rel X1_7.out.rel X2_7.out.ints).mono ?_
        rintro e w8 ⟨g0, rfl, own, hB⟩
        have T8 := Lib.hid (T7.out.trans (hB.mono T7.out.size))
        have Z8' := Lib.hid hB.size
        have R8 := Lib.hid (R7.out.below hB)
        have X0_8 := Lib.hid (X0_7.out.below hB)
        have X1_8 := Lib.hid (X1_7.out.below hB)
        have X2_8 := Lib.hid (X2_7.out.below hB)
        have G8 := Lib.hid own
        have NG := Lib.hid (show ∀ k, (g0).ownBlock = some k → w7.heap.size ≤ k ∧ k < w8.heap.size from own.lt)
        clear hB R7 X0_7 X1_7 X2_7 own
        have PRX0_ := Lib.hid (apart_of (v1 := r0) (v2 := x0') (B := w4.heap.size) (fun k hk => by have := (NR.out k hk).2; exact this) (fun k hk => by have h1 := (NX0_.out k hk).1; have h2 : w4.heap.size ≤ w4.heap.size := (by omega); omega))
        have PRX1_ := Lib.hid (apart_of (v1 := r0) (v2 := x1') (B := w4.heap.size) (fun k hk => by have := (NR.out k hk).2; exact this) (fun k hk => by have h1 := (NX1_.out k hk).1; have h2 : w4.heap.size ≤ w5.heap.size := (by have := Z5'.out; omega); omega))
        have PRX2_ := Lib.hid (apart_of (v1 := r0) (v2 := x2') (B := w4.heap.size) (fun k hk => by have := (NR.out k hk).2; exact this) (fun k hk => by have h1 := (NX2_.out k hk).1; have h2 : w4.heap.size ≤ w6.heap.size := (by have := Z5'.out; have := Z6'.out; omega); omega))
        have PRG := Lib.hid (apart_of (v1 := r0) (v2 := g0) (B := w4.heap.size) (fun k hk => by have := (NR.out k hk).2; exact this) (fun k hk => by have h1 := (NG.out k hk).1; have h2 : w4.heap.size ≤ w7.heap.size := (by have := Z5'.out; have := Z6'.out; have := Z7'.out; omega); omega))
        have PX0_X1_ := Lib.hid (apart_of (v1 := x0') (v2 := x1') (B := w5.heap.size) (fun k hk => by have := (NX0_.out k hk).2; exact this) (fun k hk => by have h1 := (NX1_.out k hk).1; have h2 : w5.heap.size ≤ w5.heap.size := (by omega); omega))
        have PX0_X2_ := Lib.hid (apart_of (v1 := x0') (v2 := x2') (B := w5.heap.size) (fun k hk => by have := (NX0_.out k hk).2; exact this) (fun k hk => by have h1 := (NX2_.out k hk).1; have h2 : w5.heap.size ≤ w6.heap.size := (by have := Z6'.out; omega); omega))
        have PX0_G := Lib.hid (apart_of (v1 := x0') (v2 := g0) (B := w5.heap.size) (fun k hk => by have := (NX0_.out k hk).2; exact this) (fun k hk => by have h1 := (NG.out k hk).1; have h2 : w5.heap.size ≤ w7.heap.size := (by have := Z6'.out; have := Z7'.out; omega); omega))
        have PX1_X2_ := Lib.hid (apart_of (v1 := x1') (v2 := x2') (B := w6.heap.size) (fun k hk => by have := (NX1_.out k hk).2; exact this) (fun k hk => by have h1 := (NX2_.out k hk).1; have h2 : w6.heap.size ≤ w6.heap.size := (by omega); omega))
        have PX1_G := Lib.hid (apart_of (v1 := x1') (v2 := g0) (B := w6.heap.size) (fun k hk => by have := (NX1_.out k hk).2; exact this) (fun k hk => by have h1 := (NG.out k hk).1; have h2 : w6.heap.size ≤ w7.heap.size := (by have := Z7'.out; omega); omega))
        have PX2_G := Lib.hid (apart_of (v1 := x2') (v2 := g0) (B := w7.heap.size) (fun k hk => by have := (NX2_.out k hk).2; exact this) (fun k hk => by have h1 := (NG.out k hk).1; have h2 : w7.heap.size ≤ w7.heap.size := (by omega); omega))
        go_wp2_with fail
        refine (eqSelf_any g0 r0 F w8 G8.out.ints R8.out.ints HF.out).mono ?_
        rintro e w9 ⟨rfl, hB⟩
        have T9 := Lib.hid (T8.out.trans (hB.mono T8.out.size))
        have Z9' := Lib.hid hB.size
        have R9 := Lib.hid (R8.out.below hB)
        have X0_9 := Lib.hid (X0_8.out.below hB)
        have X1_9 := Lib.hid (X1_8.out.below hB)
        have X2_9 := Lib.hid (X2_8.out.below hB)
        have G9 := Lib.hid (G8.out.below hB)
        clear hB R8 X0_8 X1_8 X2_8 G8
        go_wp2_with fail
        refine (toLotS_any _ zs0 _ (HA0.out.below T9.out) hn0).mono ?_
        rintro e w10 ⟨y0, rfl, own, hB⟩
        have T10 := Lib.hid (T9.out.trans (hB.mono T9.out.size))
        have Z10' := Lib.hid hB.size
        have R10 := Lib.hid (R9.out.below hB)
        have X0_10 := Lib.hid (X0_9.out.below hB)
        have X1_10 := Lib.hid (X1_9.out.below hB)
        have X2_10 := Lib.hid (X2_9.out.below hB)
        have G10 := Lib.hid (G9.out.below hB)
        have Y10 := Lib.hid own
        clear hB R9 X0_9 X1_9 X2_9 G9 own
        go_wp2_with fail
        refine (eqLotS_self x0' y0 zs0 w10 X0_10.out.rel Y10.out.rel (by omega)).mono ?_
        rintro e w11 ⟨rfl, hB⟩
        have T11 := Lib.hid (T10.out.trans (hB.mono T10.out.size))
        have Z11' := Lib.hid hB.size
        have R11 := Lib.hid (R10.out.below hB)
        have X0_11 := Lib.hid (X0_10.out.below hB)
        have X1_11 := Lib.hid (X1_10.out.below hB)
        have X2_11 := Lib.hid (X2_10.out.below hB)
        have G11 := Lib.hid (G10.out.below hB)
        clear hB R10 X0_10 X1_10 X2_10 G10 Y10
        go_wp2_with fail
        refine (toOrderS_any _ zs1 _ (HA1.out.below T11.out) hn1).mono ?_
        rintro e w12 ⟨y1, rfl, own, hB⟩
        have T12 := Lib.hid (T11.out.trans (hB.mono T11.out.size))
        have Z12' := Lib.hid hB.size
        have R12 := Lib.hid (R11.out.below hB)
        have X0_12 := Lib.hid (X0_11.out.below hB)
        have X1_12 := Lib.hid (X1_11.out.below hB)
        have X2_12 := Lib.hid (X2_11.out.below hB)
        have G12 := Lib.hid (G11.out.below hB)
        have Y12 := Lib.hid own
        clear hB R11 X0_11 X1_11 X2_11 G11 own
        go_wp2_with fail
        refine (eqOrderS_self x1' y1 zs1 w12 X1_12.out.rel Y12.out.rel (by omega)).mono ?_
        rintro e w13 ⟨rfl, hB⟩
        have T13 := Lib.hid (T12.out.trans (hB.mono T12.out.size))
        have Z13' := Lib.hid hB.size
        have R13 := Lib.hid (R12.out.below hB)
        have X0_13 := Lib.hid (X0_12.out.below hB)
        have X1_13 := Lib.hid (X1_12.out.below hB)
        have X2_13 := Lib.hid (X2_12.out.below hB)
        have G13 := Lib.hid (G12.out.below hB)
        clear hB R12 X0_12 X1_12 X2_12 G12 Y12
        go_wp2_with fail
        refine (toInts_any _ zs2 _ (HA2.out.below T13.out) hn2).mono ?_
        rintro e w14 ⟨y2, rfl, own, hB⟩
        have T14 := Lib.hid (T13.out.trans (hB.mono T13.out.size))
        have Z14' := Lib.hid hB.size
        have R14 := Lib.hid (R13.out.below hB)
        have X0_14 := Lib.hid (X0_13.out.below hB)
        have X1_14 := Lib.hid (X1_13.out.below hB)
        have X2_14 := Lib.hid (X2_13.out.below hB)
        have G14 := Lib.hid (G13.out.below hB)
        have Y14 := Lib.hid own
        clear hB R13 X0_13 X1_13 X2_13 G13 own
        go_wp2_with fail
        refine (eqSelf_any x2' y2 zs2 w14 X2_14.out.ints Y14.out.ints (by omega)).mono ?_
        rintro e w15 ⟨rfl, hB⟩
        have T15 := Lib.hid (T14.out.trans (hB.mono T14.out.size))
        have Z15' := Lib.hid hB.size
        have R15 := Lib.hid (R14.out.below hB)
        have X0_15 := Lib.hid (X0_14.out.below hB)
        have X1_15 := Lib.hid (X1_14.out.below hB)
        have X2_15 := Lib.hid (X2_14.out.below hB)
        have G15 := Lib.hid (G14.out.below hB)
        clear hB R14 X0_14 X1_14 X2_14 G14 Y14
        go_wp2_with fail
        refine (markLt_any x0' zs0 _ w15 (1) X0_15.out (by omega) (by omega) (by omega)).mono ?_
        rintro e w16 ⟨rfl, own, hg⟩
        have T16 := Lib.hid (T15.out.grown hg T15.out.size fun k hk => by have := (NX0_.out k hk).1; have := T4.out.size; omega)
        have R16 := Lib.hid (R15.out.kept hg PRX0_.out.1)
        have X1_16 := Lib.hid (X1_15.out.kept hg PX0_X1_.out.2)
        have X2_16 := Lib.hid (X2_15.out.kept hg PX0_X2_.out.2)
        have G16 := Lib.hid (G15.out.kept hg PX0_G.out.2)
        have X0_16 := Lib.hid own
        clear hg own R15 X0_15 X1_15 X2_15 G15
        go_wp2_with fail
        refine (markOd_any x1' zs1 _ w16 (1 + 2 * (zs0.length : Int)) X1_16.out (by omega) (by omega) (by omega)).mono ?_
        rintro e w17 ⟨rfl, own, hg⟩
        have T17 := Lib.hid (T16.out.grown hg T16.out.size fun k hk => by have := (NX1_.out k hk).1; have := T5.out.size; omega)
        have R17 := Lib.hid (R16.out.kept hg PRX1_.out.1)
        have X2_17 := Lib.hid (X2_16.out.kept hg PX1_X2_.out.2)
        have G17 := Lib.hid (G16.out.kept hg PX1_G.out.2)
        have X1_17 := Lib.hid own
        clear hg own R16 X1_16 X2_16 G16
        go_wp2_with fail
        refine (mark_any x2' zs2 _ w17 (1 + 2 * (zs0.length : Int) + 2 * (zs1.length : Int)) X2_17.out (by omega) (by omega) (by omega)).mono ?_
        rintro e w18 ⟨rfl, own, hg⟩
        have T18 := Lib.hid (T17.out.grown hg T17.out.size fun k hk => by have := (NX2_.out k hk).1; have := T6.out.size; omega)
        have R18 := Lib.hid (R17.out.kept hg PRX2_.out.1)
        have G18 := Lib.hid (G17.out.kept hg PX2_G.out.2)
        have X2_18 := Lib.hid own
        clear hg own R17 X2_17 G17
        go_wp2_with fail
        refine (eqSelf_any g0 r0 F w18 G18.out.ints R18.out.ints HF.out).mono ?_
        rintro e w19 ⟨rfl, hB⟩
        have T19 := Lib.hid (T18.out.trans (hB.mono T18.out.size))
        have Z19' := Lib.hid hB.size
        have R19 := Lib.hid (R18.out.below hB)
        have G19 := Lib.hid (G18.out.below hB)
        clear hB R18 G18
        go_wp2_with fail
        refine (mark_any g0 F _ w19 1 G19.out HF.out (by omega) (by omega)).mono ?_
        rintro e w20 ⟨rfl, own, hg⟩
        have T20 := Lib.hid (T19.out.grown hg T19.out.size fun k hk => by have := (NG.out k hk).1; have := T7.out.size; omega)
        have R20 := Lib.hid (R19.out.kept hg PRG.out.1)
        have G20 := Lib.hid own
        clear hg own R19 G19
        go_wp2_with fail
        refine (held_any g0 F.length w20 1 G20.out.ints HF.out (by omega) (by omega)).mono ?_
        rintro e w21 ⟨rfl, hB⟩
        have T21 := Lib.hid (T20.out.trans (hB.mono T20.out.size))
        have Z21' := Lib.hid hB.size
        have R21 := Lib.hid (R20.out.below hB)
        have G21 := Lib.hid (G20.out.below hB)
        clear hB R20 G20
        go_wp2_with fail
        refine (toLotS_any _ zs0 _ (HA0.out.below T21.out) hn0).mono ?_
        rintro e w22 ⟨t0, rfl, own, hB⟩
        have T22 := Lib.hid (T21.out.trans (hB.mono T21.out.size))
        have Z22' := Lib.hid hB.size
        have R22 := Lib.hid (R21.out.below hB)
        have G22 := Lib.hid (G21.out.below hB)
        have T0_22 := Lib.hid own
        clear hB R21 G21 own
        go_wp2_with fail
        refine (toOrderS_any _ zs1 _ (HA1.out.below T22.out) hn1).mono ?_
        rintro e w23 ⟨t1, rfl, own, hB⟩
        have T23 := Lib.hid (T22.out.trans (hB.mono T22.out.size))
        have Z23' := Lib.hid hB.size
        have R23 := Lib.hid (R22.out.below hB)
        have G23 := Lib.hid (G22.out.below hB)
        have T0_23 := Lib.hid (T0_22.out.below hB)
        have T1_23 := Lib.hid own
        clear hB R22 G22 T0_22 own
        go_wp2_with fail
        refine (toInts_any _ zs2 _ (HA2.out.below T23.out) hn2).mono ?_
        rintro e w24 ⟨t2, rfl, own, hB⟩
        have T24 := Lib.hid (T23.out.trans (hB.mono T23.out.size))
        have Z24' := Lib.hid hB.size
        have R24 := Lib.hid (R23.out.below hB)
        have G24 := Lib.hid (G23.out.below hB)
        have T0_24 := Lib.hid (T0_23.out.below hB)
        have T1_24 := Lib.hid (T1_23.out.below hB)
        have T2_24 := Lib.hid own
        clear hB R23 G23 T0_23 T1_23 own
        go_wp2_with fail
        refine (cI.out t0 t1 t2 w24  T0_24.out.rel T1_24.out.rel T2_24.out.ints).mono ?_
        rintro e w25 ⟨h0, rfl, own, hB⟩
        have T25 := Lib.hid (T24.out.trans (hB.mono T24.out.size))
        have Z25' := Lib.hid hB.size
        have R25 := Lib.hid (R24.out.below hB)
        have G25 := Lib.hid (G24.out.below hB)
        have H25 := Lib.hid own
        clear hB R24 G24 T0_24 T1_24 T2_24 own
        go_wp2_with fail
        refine (eqSelf_any h0 r0 F w25 H25.out.ints R25.out.ints HF.out).mono ?_
        rintro e w26 ⟨rfl, hB⟩
        have T26 := Lib.hid (T25.out.trans (hB.mono T25.out.size))
        have Z26' := Lib.hid hB.size
        have R26 := Lib.hid (R25.out.below hB)
        have G26 := Lib.hid (G25.out.below hB)
        clear hB R25 G25 H25
        go_wp2_with fail
        refine (held_any g0 F.length w26 1 G26.out.ints HF.out (by omega) (by omega)).mono ?_
        rintro e w27 ⟨rfl, hB⟩
        have T27 := Lib.hid (T26.out.trans (hB.mono T26.out.size))
        have Z27' := Lib.hid hB.size
        have R27 := Lib.hid (R26.out.below hB)
        have G27 := Lib.hid (G26.out.below hB)
        clear hB R26 G26
        go_wp2_with fail
        go_ret
        exact ⟨rfl, T27.out⟩
      · skip
        have Z0q := Lib.hid fun wx hx => szLotS_any (.slice a0 zs0.length c0) zs0 1048576 wx hx (by omega) (by omega) (by omega)
        have hl0z : ¬ (((1048576 : Int)) - (zs0.length : Int) < 0) := by omega
        have Z1q := Lib.hid fun wx hx => szOrderS_no (.slice a1 zs1.length c1) zs1 ((1048576 : Int) - (zs0.length : Int)) wx hx (by omega) (by omega) (by omega) hm1
        have hl2' : ¬ ((1048576 : Int) < (zs2.length : Int)) := by omega
        clear hA0 hA1 hA2
        go_enter Try.func6, Try.ntmps6
        go_wp2_with fail
        refine (Z0q.out _ (HA0.out.below T0.out)).mono ?_
        rintro e w ⟨rfl, rfl⟩
        go_wp2_with fail
        refine (Z1q.out _ (HA1.out.below T0.out)).mono ?_
        rintro e w ⟨rfl, rfl⟩
        go_wp2_with fail
        go_ret
        exact ⟨rfl, T0.out⟩
    · skip
      have Z0q := Lib.hid fun wx hx => szLotS_no (.slice a0 zs0.length c0) zs0 1048576 wx hx (by omega) (by omega) (by omega) hm0
      have hl2' : ¬ ((1048576 : Int) < (zs2.length : Int)) := by omega
      clear hA0 hA1 hA2
      go_enter Try.func6, Try.ntmps6
      go_wp2_with fail
      refine (Z0q.out _ (HA0.out.below T0.out)).mono ?_
      rintro e w ⟨rfl, rfl⟩
      go_wp2_with fail
      go_ret
      exact ⟨rfl, T0.out⟩
  · have hgt : (1048576 : Int) < (zs2.length : Int) := by omega
    clear hA0 hA1 hA2
    go_enter Try.func6, Try.ntmps6
    go_wp2_with fail
    go_ret
    exact ⟨rfl, T0.out⟩
end Go.Proofs.Ytklgklkfolbjcaa
