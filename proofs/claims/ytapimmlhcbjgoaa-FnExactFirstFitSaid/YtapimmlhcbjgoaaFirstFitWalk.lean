/-
  Proved here: the law on FirstFit answers true, for all arguments; condition: none.
-/
import Derived.Test.YtapimmlhcbjgoaaFiT
import Derived.Test.YtapimmlhcbjgoaaLtS
import Derived.Test.YtapimmlhcbjgoaaOdS
import Derived.Test.YtapimmlhcbjgoaaLtMark
import Derived.Test.YtapimmlhcbjgoaaOdMark
import Derived.Test.YtapimmlhcbjgoaaIntsE
namespace Go.Proofs.Ytapimmlhcbjgoaa
open Go.ChangeShapes Go.WideShapes Go.ChangeAt Go.RowKit

set_option linter.unusedVariables false in
set_option maxRecDepth 100000 in
set_option maxHeartbeats 8000000 in
theorem firstFit_walk {H : Type} {enc : TypeId × Value → H} (w : World) (base : Nat)
    (v0 : Value) (d0 : DataW H) (p0 : List MemPlace) (o0 : Value.okWide Try.prog w .any base 22 v0) (k0 : DataW.Trod enc Try.prog w 0 (fun _ => true) true 22 v0 d0 p0)
    (v1 : Value) (d1 : DataW H) (p1 : List MemPlace) (o1 : Value.okWide Try.prog w .any base 23 v1) (k1 : DataW.Trod enc Try.prog w 0 (fun _ => true) true 23 v1 d1 p1)
    :
    Calls Try.prog 3 #[v0, v1] w fun e w' => e = .returned (.bool true) ∧ Below w.heap.size w w' := by
  obtain ⟨zs0, hA0, hm0⟩ := open_argLt o0 k0
  clear o0 k0
  obtain ⟨a0, c0, rfl⟩ := hA0.len
  obtain ⟨zs1, hA1, hm1⟩ := open_argOd o1 k1
  clear o1 k1
  obtain ⟨a1, c1, rfl⟩ := hA1.len
  have HA0 := Lib.hid hA0
  have HA1 := Lib.hid hA1
  have T0 := Lib.hid (Below.refl w.heap.size w)
  by_cases hz0 : (zs0.length : Int) ≤ 1048576
  · have hn0 : zs0.length ≤ 1048576 := by omega
    by_cases hz1 : (zs1.length : Int) ≤ 1048576 - (zs0.length : Int)
    · have hn1 : zs1.length ≤ 1048576 := by omega
      have Z0q := Lib.hid fun wx hx => szLotS_any (.slice a0 zs0.length c0) zs0 1048576 wx hx (by omega) (by omega) (by omega)
      have hl0z : ¬ (((1048576 : Int)) - (zs0.length : Int) < 0) := by omega
      have Z1q := Lib.hid fun wx hx => szOrderS_any (.slice a1 zs1.length c1) zs1 ((1048576 : Int) - (zs0.length : Int)) wx hx (by omega) (by omega) (by omega)
      have hl1z : ¬ (((1048576 : Int) - (zs0.length : Int)) - (zs1.length : Int) < 0) := by omega
      have hF := (fitF_len (b := false) (T := zs0) hn1)
      have cS := Lib.hid fun v0' v1' wx (g0 : Lts wx v0' zs0) (g1 : Ods wx v1' zs1) => specFirstFit_any v0' v1' zs0 zs1 wx g0 g1 hn0 hn1
      have cI := Lib.hid fun v0' v1' wx  (g0 : Lts wx v0' zs0) (g1 : Ods wx v1' zs1) => implFirstFit_any v0' v1' zs0 zs1 wx g0 g1 hn0 hn1
      obtain ⟨F, hFe⟩ : ∃ F, (fitF false zs0 zs1).1 = F := ⟨_, rfl⟩
      obtain ⟨C1, hC1e⟩ : ∃ F, (fitF false zs0 zs1).2 = F := ⟨_, rfl⟩
      rw [hFe, hC1e] at cS cI
      rw [hFe] at hF
      clear hFe hC1e hA0 hA1
      have hne1 : (C1 != C1) = false := by simp
      have hme : ((1 + (F.length : Int)) != (1 + (F.length : Int))) = false := by simp
      have HF := Lib.hid hF
      have hlt0 : ¬ ((1 : Int) + 2 * (zs0.length : Int) + 2 * (zs1.length : Int) < 0) := by omega
      have hlt1 : ¬ ((1 : Int) + (F.length : Int) < 0) := by omega
      go_enter Try.func3, Try.ntmps3
      go_wp2_with fail
      refine (Z0q.out _ (HA0.out.below T0.out)).mono ?_
      rintro e w ⟨rfl, rfl⟩
      go_wp2_with fail
      refine (Z1q.out _ (HA1.out.below T0.out)).mono ?_
      rintro e w ⟨rfl, rfl⟩
      go_wp2_with fail
      refine (toLotS_any _ zs0 _ (HA0.out.below T0.out) hn0).mono ?_
      rintro e w1 ⟨s0, rfl, own, hB⟩
      have T1 := Lib.hid (T0.out.trans (hB.mono T0.out.size))
      have Z1' := Lib.hid hB.size
      have S0_1 := Lib.hid own
      clear hB own
      go_wp2_with fail
      refine (toOrderS_any _ zs1 _ (HA1.out.below T1.out) hn1).mono ?_
      rintro e w2 ⟨s1, rfl, own, hB⟩
      have T2 := Lib.hid (T1.out.trans (hB.mono T1.out.size))
      have Z2' := Lib.hid hB.size
      have S0_2 := Lib.hid (S0_1.out.below hB)
      have S1_2 := Lib.hid own
      clear hB S0_1 own
      go_wp2_with fail
      refine (cS.out s0 s1 w2 S0_2.out.rel S1_2.out.rel).mono ?_
      rintro e w3 ⟨r0, rfl, own, hB⟩
      have T3 := Lib.hid (T2.out.trans (hB.mono T2.out.size))
      have Z3' := Lib.hid hB.size
      have R3 := Lib.hid own
      have NR := Lib.hid (show ∀ k, (r0).ownBlock = some k → w2.heap.size ≤ k ∧ k < w3.heap.size from own.lt)
      clear hB S0_2 S1_2 own
      go_wp2_with fail
      refine (toLotS_any _ zs0 _ (HA0.out.below T3.out) hn0).mono ?_
      rintro e w4 ⟨x0', rfl, own, hB⟩
      have T4 := Lib.hid (T3.out.trans (hB.mono T3.out.size))
      have Z4' := Lib.hid hB.size
      have R4 := Lib.hid (R3.out.below hB)
      have X0_4 := Lib.hid own
      have NX0_ := Lib.hid (show ∀ k, (x0').ownBlock = some k → w3.heap.size ≤ k ∧ k < w4.heap.size from own.lt)
      clear hB R3 own
      go_wp2_with fail
      refine (toOrderS_any _ zs1 _ (HA1.out.below T4.out) hn1).mono ?_
      rintro e w5 ⟨x1', rfl, own, hB⟩
      have T5 := Lib.hid (T4.out.trans (hB.mono T4.out.size))
      have Z5' := Lib.hid hB.size
      have R5 := Lib.hid (R4.out.below hB)
      have X0_5 := Lib.hid (X0_4.out.below hB)
      have X1_5 := Lib.hid own
      have NX1_ := Lib.hid (show ∀ k, (x1').ownBlock = some k → w4.heap.size ≤ k ∧ k < w5.heap.size from own.lt)
      clear hB R4 X0_4 own
      go_wp2_with fail
      refine (cI.out x0' x1' w5  X0_5.out.rel X1_5.out.rel).mono ?_
      rintro e w6 ⟨g0, rfl, own, hB⟩
      have T6 := Lib.hid (T5.out.trans (hB.mono T5.out.size))
      have Z6' := Lib.hid hB.size
      have R6 := Lib.hid (R5.out.below hB)
      have X0_6 := Lib.hid (X0_5.out.below hB)
      have X1_6 := Lib.hid (X1_5.out.below hB)
      have G6 := Lib.hid own
      have NG := Lib.hid (show ∀ k, (g0).ownBlock = some k → w5.heap.size ≤ k ∧ k < w6.heap.size from own.lt)
      clear hB R5 X0_5 X1_5 own
      have PRX0_ := Lib.hid (apart_of (v1 := r0) (v2 := x0') (B := w3.heap.size) (fun k hk => by have := (NR.out k hk).2; exact this) (fun k hk => by have h1 := (NX0_.out k hk).1; have h2 : w3.heap.size ≤ w3.heap.size := (by omega); omega))
      have PRX1_ := Lib.hid (apart_of (v1 := r0) (v2 := x1') (B := w3.heap.size) (fun k hk => by have := (NR.out k hk).2; exact this) (fun k hk => by have h1 := (NX1_.out k hk).1; have h2 : w3.heap.size ≤ w4.heap.size := (by have := Z4'.out; omega); omega))
      have PRG := Lib.hid (apart_of (v1 := r0) (v2 := g0) (B := w3.heap.size) (fun k hk => by have := (NR.out k hk).2; exact this) (fun k hk => by have h1 := (NG.out k hk).1; have h2 : w3.heap.size ≤ w5.heap.size := (by have := Z4'.out; have := Z5'.out; omega); omega))
      have PX0_X1_ := Lib.hid (apart_of (v1 := x0') (v2 := x1') (B := w4.heap.size) (fun k hk => by have := (NX0_.out k hk).2; exact this) (fun k hk => by have h1 := (NX1_.out k hk).1; have h2 : w4.heap.size ≤ w4.heap.size := (by omega); omega))
      have PX0_G := Lib.hid (apart_of (v1 := x0') (v2 := g0) (B := w4.heap.size) (fun k hk => by have := (NX0_.out k hk).2; exact this) (fun k hk => by have h1 := (NG.out k hk).1; have h2 : w4.heap.size ≤ w5.heap.size := (by have := Z5'.out; omega); omega))
      have PX1_G := Lib.hid (apart_of (v1 := x1') (v2 := g0) (B := w5.heap.size) (fun k hk => by have := (NX1_.out k hk).2; exact this) (fun k hk => by have h1 := (NG.out k hk).1; have h2 : w5.heap.size ≤ w5.heap.size := (by omega); omega))
      go_wp2_with fail
      refine (eqSelf_any g0 r0 F w6 G6.out.ints R6.out.ints HF.out).mono ?_
      rintro e w7 ⟨rfl, hB⟩
      have T7 := Lib.hid (T6.out.trans (hB.mono T6.out.size))
      have Z7' := Lib.hid hB.size
      have R7 := Lib.hid (R6.out.below hB)
      have X0_7 := Lib.hid (X0_6.out.below hB)
      have X1_7 := Lib.hid (X1_6.out.below hB)
      have G7 := Lib.hid (G6.out.below hB)
      clear hB R6 X0_6 X1_6 G6
      go_wp2_with fail
      refine (toLotS_any _ zs0 _ (HA0.out.below T7.out) hn0).mono ?_
      rintro e w8 ⟨y0, rfl, own, hB⟩
      have T8 := Lib.hid (T7.out.trans (hB.mono T7.out.size))
      have Z8' := Lib.hid hB.size
      have R8 := Lib.hid (R7.out.below hB)
      have X0_8 := Lib.hid (X0_7.out.below hB)
      have X1_8 := Lib.hid (X1_7.out.below hB)
      have G8 := Lib.hid (G7.out.below hB)
      have Y8 := Lib.hid own
      clear hB R7 X0_7 X1_7 G7 own
      go_wp2_with fail
      refine (eqLotS_self x0' y0 zs0 w8 X0_8.out.rel Y8.out.rel (by omega)).mono ?_
      rintro e w9 ⟨rfl, hB⟩
      have T9 := Lib.hid (T8.out.trans (hB.mono T8.out.size))
      have Z9' := Lib.hid hB.size
      have R9 := Lib.hid (R8.out.below hB)
      have X0_9 := Lib.hid (X0_8.out.below hB)
      have X1_9 := Lib.hid (X1_8.out.below hB)
      have G9 := Lib.hid (G8.out.below hB)
      clear hB R8 X0_8 X1_8 G8 Y8
      go_wp2_with fail
      refine (toOrderS_any _ zs1 _ (HA1.out.below T9.out) hn1).mono ?_
      rintro e w10 ⟨y1, rfl, own, hB⟩
      have T10 := Lib.hid (T9.out.trans (hB.mono T9.out.size))
      have Z10' := Lib.hid hB.size
      have R10 := Lib.hid (R9.out.below hB)
      have X0_10 := Lib.hid (X0_9.out.below hB)
      have X1_10 := Lib.hid (X1_9.out.below hB)
      have G10 := Lib.hid (G9.out.below hB)
      have Y10 := Lib.hid own
      clear hB R9 X0_9 X1_9 G9 own
      go_wp2_with fail
      refine (eqOrderS_self x1' y1 zs1 w10 X1_10.out.rel Y10.out.rel (by omega)).mono ?_
      rintro e w11 ⟨rfl, hB⟩
      have T11 := Lib.hid (T10.out.trans (hB.mono T10.out.size))
      have Z11' := Lib.hid hB.size
      have R11 := Lib.hid (R10.out.below hB)
      have X0_11 := Lib.hid (X0_10.out.below hB)
      have X1_11 := Lib.hid (X1_10.out.below hB)
      have G11 := Lib.hid (G10.out.below hB)
      clear hB R10 X0_10 X1_10 G10 Y10
      go_wp2_with fail
      refine (markLt_any x0' zs0 _ w11 (1) X0_11.out (by omega) (by omega) (by omega)).mono ?_
      rintro e w12 ⟨rfl, own, hg⟩
      have T12 := Lib.hid (T11.out.grown hg T11.out.size fun k hk => by have := (NX0_.out k hk).1; have := T3.out.size; omega)
      have R12 := Lib.hid (R11.out.kept hg PRX0_.out.1)
      have X1_12 := Lib.hid (X1_11.out.kept hg PX0_X1_.out.2)
      have G12 := Lib.hid (G11.out.kept hg PX0_G.out.2)
      have X0_12 := Lib.hid own
      clear hg own R11 X0_11 X1_11 G11
      go_wp2_with fail
      refine (markOd_any x1' zs1 _ w12 (1 + 2 * (zs0.length : Int)) X1_12.out (by omega) (by omega) (by omega)).mono ?_
      rintro e w13 ⟨rfl, own, hg⟩
      have T13 := Lib.hid (T12.out.grown hg T12.out.size fun k hk => by have := (NX1_.out k hk).1; have := T4.out.size; omega)
      have R13 := Lib.hid (R12.out.kept hg PRX1_.out.1)
      have G13 := Lib.hid (G12.out.kept hg PX1_G.out.2)
      have X1_13 := Lib.hid own
      clear hg own R12 X1_12 G12
      go_wp2_with fail
      refine (eqSelf_any g0 r0 F w13 G13.out.ints R13.out.ints HF.out).mono ?_
      rintro e w14 ⟨rfl, hB⟩
      have T14 := Lib.hid (T13.out.trans (hB.mono T13.out.size))
      have Z14' := Lib.hid hB.size
      have R14 := Lib.hid (R13.out.below hB)
      have G14 := Lib.hid (G13.out.below hB)
      clear hB R13 G13
      go_wp2_with fail
      refine (mark_any g0 F _ w14 1 G14.out HF.out (by omega) (by omega)).mono ?_
      rintro e w15 ⟨rfl, own, hg⟩
      have T15 := Lib.hid (T14.out.grown hg T14.out.size fun k hk => by have := (NG.out k hk).1; have := T5.out.size; omega)
      have R15 := Lib.hid (R14.out.kept hg PRG.out.1)
      have G15 := Lib.hid own
      clear hg own R14 G14
      go_wp2_with fail
      refine (held_any g0 F.length w15 1 G15.out.ints HF.out (by omega) (by omega)).mono ?_
      rintro e w16 ⟨rfl, hB⟩
      have T16 := Lib.hid (T15.out.trans (hB.mono T15.out.size))
      have Z16' := Lib.hid hB.size
      have R16 := Lib.hid (R15.out.below hB)
      have G16 := Lib.hid (G15.out.below hB)
      clear hB R15 G15
      go_wp2_with fail
      refine (toLotS_any _ zs0 _ (HA0.out.below T16.out) hn0).mono ?_
      rintro e w17 ⟨t0, rfl, own, hB⟩
      have T17 := Lib.hid (T16.out.trans (hB.mono T16.out.size))
      have Z17' := Lib.hid hB.size
      have R17 := Lib.hid (R16.out.below hB)
      have G17 := Lib.hid (G16.out.below hB)
      have T0_17 := Lib.hid own
      clear hB R16 G16 own
      go_wp2_with fail
      refine (toOrderS_any _ zs1 _ (HA1.out.below T17.out) hn1).mono ?_
      rintro e w18 ⟨t1, rfl, own, hB⟩
      have T18 := Lib.hid (T17.out.trans (hB.mono T17.out.size))
      have Z18' := Lib.hid hB.size
      have R18 := Lib.hid (R17.out.below hB)
      have G18 := Lib.hid (G17.out.below hB)
      have T0_18 := Lib.hid (T0_17.out.below hB)
      have T1_18 := Lib.hid own
      clear hB R17 G17 T0_17 own
      go_wp2_with fail
      refine (cI.out t0 t1 w18  T0_18.out.rel T1_18.out.rel).mono ?_
      rintro e w19 ⟨h0, rfl, own, hB⟩
      have T19 := Lib.hid (T18.out.trans (hB.mono T18.out.size))
      have Z19' := Lib.hid hB.size
      have R19 := Lib.hid (R18.out.below hB)
      have G19 := Lib.hid (G18.out.below hB)
      have H19 := Lib.hid own
      clear hB R18 G18 T0_18 T1_18 own
      go_wp2_with fail
      refine (eqSelf_any h0 r0 F w19 H19.out.ints R19.out.ints HF.out).mono ?_
      rintro e w20 ⟨rfl, hB⟩
      have T20 := Lib.hid (T19.out.trans (hB.mono T19.out.size))
      have Z20' := Lib.hid hB.size
      have R20 := Lib.hid (R19.out.below hB)
      have G20 := Lib.hid (G19.out.below hB)
      clear hB R19 G19 H19
      go_wp2_with fail
      refine (held_any g0 F.length w20 1 G20.out.ints HF.out (by omega) (by omega)).mono ?_
      rintro e w21 ⟨rfl, hB⟩
      have T21 := Lib.hid (T20.out.trans (hB.mono T20.out.size))
      have Z21' := Lib.hid hB.size
      have R21 := Lib.hid (R20.out.below hB)
      have G21 := Lib.hid (G20.out.below hB)
      clear hB R20 G20
      go_wp2_with fail
      go_ret
      exact ⟨rfl, T21.out⟩
    · skip
      have Z0q := Lib.hid fun wx hx => szLotS_any (.slice a0 zs0.length c0) zs0 1048576 wx hx (by omega) (by omega) (by omega)
      have hl0z : ¬ (((1048576 : Int)) - (zs0.length : Int) < 0) := by omega
      have Z1q := Lib.hid fun wx hx => szOrderS_no (.slice a1 zs1.length c1) zs1 ((1048576 : Int) - (zs0.length : Int)) wx hx (by omega) (by omega) (by omega) hm1
      clear hA0 hA1
      go_enter Try.func3, Try.ntmps3
      go_wp2_with fail
      refine (Z0q.out _ (HA0.out.below T0.out)).mono ?_
      rintro e w ⟨rfl, rfl⟩
      go_wp2_with fail
      refine (Z1q.out _ (HA1.out.below T0.out)).mono ?_
      rintro e w ⟨rfl, rfl⟩
      go_wp2_with fail
      go_ret
      exact ⟨rfl, T0.out⟩
  · skip
    have Z0q := Lib.hid fun wx hx => szLotS_no (.slice a0 zs0.length c0) zs0 1048576 wx hx (by omega) (by omega) (by omega) hm0
    clear hA0 hA1
    go_enter Try.func3, Try.ntmps3
    go_wp2_with fail
    refine (Z0q.out _ (HA0.out.below T0.out)).mono ?_
    rintro e w ⟨rfl, rfl⟩
    go_wp2_with fail
    go_ret
    exact ⟨rfl, T0.out⟩
end Go.Proofs.Ytapimmlhcbjgoaa
