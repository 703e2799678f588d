/-
  Proved here: the law on PlacesAt answers true, for all arguments; condition: none.
-/
import Derived.Test.YtphinokacggnfaaAtT
import Derived.Test.YtphinokacggnfaaAtU
import Derived.Test.YtphinokacggnfaaBox5
import Derived.Test.YtphinokacggnfaaMvS
import Derived.Test.YtphinokacggnfaaMvMark
import Derived.Test.YtphinokacggnfaaPlHeld
import Derived.Test.YtphinokacggnfaaPlaceA
namespace Go.Proofs.Ytphinokacggnfaa
open Go.ChangeShapes Go.WideShapes Go.ChangeAt Go.RowKit

set_option linter.unusedVariables false in
set_option maxRecDepth 100000 in
set_option maxHeartbeats 8000000 in
theorem placesAt_walk {H : Type} {enc : TypeId × Value → H} (w : World) (base : Nat)
    (v0 : Value) (d0 : DataW H) (p0 : List MemPlace) (o0 : Value.okWide Try.prog w .any base 30 v0) (k0 : DataW.Trod enc Try.prog w 0 (fun _ => true) true 30 v0 d0 p0)
    (v1 : Value) (d1 : DataW H) (p1 : List MemPlace) (o1 : Value.okWide Try.prog w .any base 22 v1) (k1 : DataW.Trod enc Try.prog w 0 (fun _ => true) true 22 v1 d1 p1)
    :
    Calls Try.prog 9 #[v0, v1] w fun e w' => e = .returned (.bool true) ∧ Below w.heap.size w w' := by
  obtain ⟨f0, rfl, hf0⟩ := open_places o0
  clear o0 k0
  obtain ⟨zs1, hA1, hm1⟩ := open_argMv o1 k1
  clear o1 k1
  obtain ⟨a1, c1, rfl⟩ := hA1.len
  have HA1 := Lib.hid hA1
  have X0 := Lib.hid (boxp_made w f0)
  have T0 := Lib.hid X0.out.under
  have HM := Lib.hid fun wx => toPlaces_any f0 wx
  by_cases hz1 : (zs1.length : Int) ≤ 1048576
  · have hn1 : zs1.length ≤ 1048576 := by omega
    have Z1q := Lib.hid fun wx hx => szMoveS_any (.slice a1 zs1.length c1) zs1 1048576 wx hx (by omega) (by omega) (by omega)
    have hl1z : ¬ (((1048576 : Int)) - (zs1.length : Int) < 0) := by omega
    have hF := placesF_len (f := f0) (ms := zs1)
    have cS := Lib.hid fun v1' wx (g1 : Mvs wx v1' zs1) => specPlacesAt_any f0 v1' zs1 wx g1 hn1 hf0.2 hf0.1
    have cI := Lib.hid fun v1' wx  (g1 : Mvs wx v1' zs1) => implPlacesAt_any f0 v1' zs1 wx g1 hn1 hf0.2 hf0.1
    obtain ⟨F, hFe⟩ : ∃ F, (placesF f0 zs1).1 = F := ⟨_, rfl⟩
    obtain ⟨C1, hC1e⟩ : ∃ F, (placesF f0 zs1).2 = F := ⟨_, rfl⟩
    rw [hFe, hC1e] at cS cI
    rw [hFe] at hF
    clear hFe hC1e hA1
    have hne1 : (C1 != C1) = false := by simp
    have hme : ((1 + 5 * (F.length : Int)) != (1 + 5 * (F.length : Int))) = false := by simp
    have HF := Lib.hid hF
    have hlt0 : ¬ ((1 : Int) + 3 * (zs1.length : Int) < 0) := by omega
    have hlt1 : ¬ ((1 : Int) + 5 * (F.length : Int) < 0) := by omega
    unfold pval at *
    go_enter Try.func9, Try.ntmps9
    go_wp2_with fail
    refine (Z1q.out _ (HA1.out.below T0.out)).mono ?_
    rintro e w0 ⟨rfl, rfl⟩
    obtain ⟨c0, c1, c2, c3, c4, _, _⟩ := X0.out
    go_wp2_with fail
    refine (HM.out _).mono ?_
    rintro e w1 ⟨rfl, hB⟩
    have T1 := Lib.hid (T0.out.trans (hB.mono T0.out.size))
    have Z1' := Lib.hid hB.size
    have X1 := Lib.hid (boxp_below X0.out hB)
    clear hB c0 c1 c2 c3 c4 X0
    go_wp2_with fail
    refine (toMoveS_any _ zs1 _ (HA1.out.below T1.out) hn1).mono ?_
    rintro e w2 ⟨s1, rfl, own, hB⟩
    have T2 := Lib.hid (T1.out.trans (hB.mono T1.out.size))
    have Z2' := Lib.hid hB.size
    have X2 := Lib.hid (boxp_below X1.out hB)
    have S1_2 := Lib.hid own
    clear hB own X1
    go_wp2_with fail
    refine (cS.out s1 w2 S1_2.out.rel).mono ?_
    rintro e w3 ⟨r0, rfl, own, hB⟩
    have T3 := Lib.hid (T2.out.trans (hB.mono T2.out.size))
    have Z3' := Lib.hid hB.size
    have X3 := Lib.hid (boxp_below X2.out hB)
    have R3 := Lib.hid own
    have NR := Lib.hid (show ∀ k, (r0).ownBlock = some k → w2.heap.size ≤ k ∧ k < w3.heap.size from own.lt)
    have RR := Lib.hid X2.out.room
    clear hB S1_2 own X2
    go_wp2_with fail
    refine (toMoveS_any _ zs1 _ (HA1.out.below T3.out) hn1).mono ?_
    rintro e w4 ⟨x1', rfl, own, hB⟩
    have T4 := Lib.hid (T3.out.trans (hB.mono T3.out.size))
    have Z4' := Lib.hid hB.size
    have X4 := Lib.hid (boxp_below X3.out hB)
    have R4 := Lib.hid (R3.out.below hB)
    have X1_4 := Lib.hid own
    have NX1_ := Lib.hid (show ∀ k, (x1').ownBlock = some k → w3.heap.size ≤ k ∧ k < w4.heap.size from own.lt)
    have RX1_ := Lib.hid X3.out.room
    clear hB R3 own X3
    obtain ⟨c0, c1, c2, c3, c4, _, _⟩ := X4.out
    go_wp2_with fail
    refine (HM.out _).mono ?_
    rintro e w5 ⟨rfl, hB⟩
    have T5 := Lib.hid (T4.out.trans (hB.mono T4.out.size))
    have Z5' := Lib.hid hB.size
    have X5 := Lib.hid (boxp_below X4.out hB)
    have R5 := Lib.hid (R4.out.below hB)
    have X1_5 := Lib.hid (X1_4.out.below hB)
    clear hB R4 X1_4 c0 c1 c2 c3 c4 X4
    go_wp2_with fail
    refine (cI.out x1' w5  X1_5.out.rel).mono ?_
    rintro e w6 ⟨g0, rfl, own, hB⟩
    have T6 := Lib.hid (T5.out.trans (hB.mono T5.out.size))
    have Z6' := Lib.hid hB.size
    have X6 := Lib.hid (boxp_below X5.out hB)
    have R6 := Lib.hid (R5.out.below hB)
    have X1_6 := Lib.hid (X1_5.out.below hB)
    have G6 := Lib.hid own
    have NG := Lib.hid (show ∀ k, (g0).ownBlock = some k → w5.heap.size ≤ k ∧ k < w6.heap.size from own.lt)
    have RG := Lib.hid X5.out.room
    clear hB R5 X1_5 own X5
    have PRX1_ := Lib.hid (apart_of (v1 := r0) (v2 := x1') (B := w3.heap.size) (fun k hk => by have := (NR.out k hk).2; exact this) (fun k hk => by have h1 := (NX1_.out k hk).1; have h2 : w3.heap.size ≤ w3.heap.size := (by omega); omega))
    have PRG := Lib.hid (apart_of (v1 := r0) (v2 := g0) (B := w3.heap.size) (fun k hk => by have := (NR.out k hk).2; exact this) (fun k hk => by have h1 := (NG.out k hk).1; have h2 : w3.heap.size ≤ w5.heap.size := (by have := Z4'.out; have := Z5'.out; omega); omega))
    have PX1_G := Lib.hid (apart_of (v1 := x1') (v2 := g0) (B := w4.heap.size) (fun k hk => by have := (NX1_.out k hk).2; exact this) (fun k hk => by have h1 := (NG.out k hk).1; have h2 : w4.heap.size ≤ w5.heap.size := (by have := Z5'.out; omega); omega))
    go_wp2_with fail
    refine (eqPlacesS_self g0 r0 F w6 G6.out.rel R6.out.rel HF.out).mono ?_
    rintro e w7 ⟨rfl, hB⟩
    have T7 := Lib.hid (T6.out.trans (hB.mono T6.out.size))
    have Z7' := Lib.hid hB.size
    have X7 := Lib.hid (boxp_below X6.out hB)
    have R7 := Lib.hid (R6.out.below hB)
    have X1_7 := Lib.hid (X1_6.out.below hB)
    have G7 := Lib.hid (G6.out.below hB)
    clear hB R6 X1_6 G6 X6
    go_wp2_with fail
    refine (toMoveS_any _ zs1 _ (HA1.out.below T7.out) hn1).mono ?_
    rintro e w8 ⟨y1, rfl, own, hB⟩
    have T8 := Lib.hid (T7.out.trans (hB.mono T7.out.size))
    have Z8' := Lib.hid hB.size
    have X8 := Lib.hid (boxp_below X7.out hB)
    have R8 := Lib.hid (R7.out.below hB)
    have X1_8 := Lib.hid (X1_7.out.below hB)
    have G8 := Lib.hid (G7.out.below hB)
    have Y8 := Lib.hid own
    clear hB R7 X1_7 G7 own X7
    go_wp2_with fail
    refine (eqMoveS_self x1' y1 zs1 w8 X1_8.out.rel Y8.out.rel (by omega)).mono ?_
    rintro e w9 ⟨rfl, hB⟩
    have T9 := Lib.hid (T8.out.trans (hB.mono T8.out.size))
    have Z9' := Lib.hid hB.size
    have X9 := Lib.hid (boxp_below X8.out hB)
    have R9 := Lib.hid (R8.out.below hB)
    have X1_9 := Lib.hid (X1_8.out.below hB)
    have G9 := Lib.hid (G8.out.below hB)
    clear hB R8 X1_8 G8 Y8 X8
    go_wp2_with fail
    refine (markMv_any x1' zs1 _ w9 (1) X1_9.out (by omega) (by omega) (by omega)).mono ?_
    rintro e w10 ⟨rfl, own, hg⟩
    have T10 := Lib.hid (T9.out.grown hg T9.out.size fun k hk => by have := (NX1_.out k hk).1; have := T3.out.size; omega)
    have X10 := Lib.hid (boxp_grown X9.out hg fun k hk => by have := (NX1_.out k hk).1; have := RX1_.out; omega)
    have R10 := Lib.hid (R9.out.kept hg PRX1_.out.1)
    have G10 := Lib.hid (G9.out.kept hg PX1_G.out.2)
    have X1_10 := Lib.hid own
    clear hg own R9 X1_9 G9 X9
    go_wp2_with fail
    refine (eqPlacesS_self g0 r0 F w10 G10.out.rel R10.out.rel HF.out).mono ?_
    rintro e w11 ⟨rfl, hB⟩
    have T11 := Lib.hid (T10.out.trans (hB.mono T10.out.size))
    have Z11' := Lib.hid hB.size
    have X11 := Lib.hid (boxp_below X10.out hB)
    have R11 := Lib.hid (R10.out.below hB)
    have G11 := Lib.hid (G10.out.below hB)
    clear hB R10 G10 X10
    go_wp2_with fail
    refine (markPl_any g0 F _ w11 1 G11.out HF.out (by omega) (by omega)).mono ?_
    rintro e w12 ⟨rfl, own, hg⟩
    have T12 := Lib.hid (T11.out.grown hg T11.out.size fun k hk => by have := (NG.out k hk).1; have := T5.out.size; omega)
    have X12 := Lib.hid (boxp_grown X11.out hg fun k hk => by have := (NG.out k hk).1; have := RG.out; omega)
    have R12 := Lib.hid (R11.out.kept hg PRG.out.1)
    have G12 := Lib.hid own
    clear hg own R11 G11 X11
    go_wp2_with fail
    refine (heldPl_any g0 F.length w12 1 G12.out.rel HF.out (by omega) (by omega)).mono ?_
    rintro e w13 ⟨rfl, hB⟩
    have T13 := Lib.hid (T12.out.trans (hB.mono T12.out.size))
    have Z13' := Lib.hid hB.size
    have X13 := Lib.hid (boxp_below X12.out hB)
    have R13 := Lib.hid (R12.out.below hB)
    have G13 := Lib.hid (G12.out.below hB)
    clear hB R12 G12 X12
    obtain ⟨c0, c1, c2, c3, c4, _, _⟩ := X13.out
    go_wp2_with fail
    refine (HM.out _).mono ?_
    rintro e w14 ⟨rfl, hB⟩
    have T14 := Lib.hid (T13.out.trans (hB.mono T13.out.size))
    have Z14' := Lib.hid hB.size
    have X14 := Lib.hid (boxp_below X13.out hB)
    have R14 := Lib.hid (R13.out.below hB)
    have G14 := Lib.hid (G13.out.below hB)
    clear hB R13 G13 c0 c1 c2 c3 c4 X13
    go_wp2_with fail
    refine (toMoveS_any _ zs1 _ (HA1.out.below T14.out) hn1).mono ?_
    rintro e w15 ⟨t1, rfl, own, hB⟩
    have T15 := Lib.hid (T14.out.trans (hB.mono T14.out.size))
    have Z15' := Lib.hid hB.size
    have X15 := Lib.hid (boxp_below X14.out hB)
    have R15 := Lib.hid (R14.out.below hB)
    have G15 := Lib.hid (G14.out.below hB)
    have T1_15 := Lib.hid own
    clear hB R14 G14 own X14
    go_wp2_with fail
    refine (cI.out t1 w15  T1_15.out.rel).mono ?_
    rintro e w16 ⟨h0, rfl, own, hB⟩
    have T16 := Lib.hid (T15.out.trans (hB.mono T15.out.size))
    have Z16' := Lib.hid hB.size
    have X16 := Lib.hid (boxp_below X15.out hB)
    have R16 := Lib.hid (R15.out.below hB)
    have G16 := Lib.hid (G15.out.below hB)
    have H16 := Lib.hid own
    clear hB R15 G15 T1_15 own X15
    go_wp2_with fail
    refine (eqPlacesS_self h0 r0 F w16 H16.out.rel R16.out.rel HF.out).mono ?_
    rintro e w17 ⟨rfl, hB⟩
    have T17 := Lib.hid (T16.out.trans (hB.mono T16.out.size))
    have Z17' := Lib.hid hB.size
    have X17 := Lib.hid (boxp_below X16.out hB)
    have R17 := Lib.hid (R16.out.below hB)
    have G17 := Lib.hid (G16.out.below hB)
    clear hB R16 G16 H16 X16
    go_wp2_with fail
    refine (heldPl_any g0 F.length w17 1 G17.out.rel HF.out (by omega) (by omega)).mono ?_
    rintro e w18 ⟨rfl, hB⟩
    have T18 := Lib.hid (T17.out.trans (hB.mono T17.out.size))
    have Z18' := Lib.hid hB.size
    have X18 := Lib.hid (boxp_below X17.out hB)
    have R18 := Lib.hid (R17.out.below hB)
    have G18 := Lib.hid (G17.out.below hB)
    clear hB R17 G17 X17
    go_wp2_with fail
    go_ret
    exact ⟨rfl, T18.out⟩
  · skip
    have Z1q := Lib.hid fun wx hx => szMoveS_no (.slice a1 zs1.length c1) zs1 1048576 wx hx (by omega) (by omega) (by omega) hm1
    clear hA1
    unfold pval at *
    go_enter Try.func9, Try.ntmps9
    go_wp2_with fail
    refine (Z1q.out _ (HA1.out.below T0.out)).mono ?_
    rintro e w0 ⟨rfl, rfl⟩
    go_wp2_with fail
    go_ret
    exact ⟨rfl, T0.out⟩
end Go.Proofs.Ytphinokacggnfaa
