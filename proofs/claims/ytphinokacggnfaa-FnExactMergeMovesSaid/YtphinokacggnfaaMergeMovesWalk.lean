/-
  Proved here: the law on MergeMoves answers true, for all arguments; condition: none.
-/
import Derived.Test.YtphinokacggnfaaMgS
import Derived.Test.YtphinokacggnfaaMgI
import Derived.Test.YtphinokacggnfaaMvS
import Derived.Test.YtphinokacggnfaaMvMark
import Derived.Test.YtphinokacggnfaaMvHeld
namespace Go.Proofs.Ytphinokacggnfaa
open Go.ChangeShapes Go.WideShapes Go.ChangeAt Go.RowKit

set_option linter.unusedVariables false in
set_option maxRecDepth 100000 in
set_option maxHeartbeats 8000000 in
theorem mergeMoves_walk {H : Type} {enc : TypeId × Value → H} (w : World) (base : Nat)
    (v0 : Value) (d0 : DataW H) (p0 : List MemPlace) (o0 : Value.okWide Try.prog w .any base 22 v0) (k0 : DataW.Trod enc Try.prog w 0 (fun _ => true) true 22 v0 d0 p0)
    :
    Calls Try.prog 11 #[v0] w fun e w' => e = .returned (.bool true) ∧ Below w.heap.size w w' := by
  obtain ⟨zs0, hA0, hm0⟩ := open_argMv o0 k0
  clear o0 k0
  obtain ⟨a0, c0, rfl⟩ := hA0.len
  have HA0 := Lib.hid hA0
  have T0 := Lib.hid (Below.refl w.heap.size w)
  by_cases hz0 : (zs0.length : Int) ≤ 1048576
  · have hn0 : zs0.length ≤ 1048576 := by omega
    have Z0q := Lib.hid fun wx hx => szMoveS_any (.slice a0 zs0.length c0) zs0 1048576 wx hx (by omega) (by omega) (by omega)
    have hl0z : ¬ (((1048576 : Int)) - (zs0.length : Int) < 0) := by omega
    have hF := mergeF_len (ms := zs0)
    have cS := Lib.hid fun v0' wx (g0 : Mvs wx v0' zs0) => specMerge_any v0' zs0 wx g0 hn0
    have cI := Lib.hid fun v0' wx  (g0 : Mvs wx v0' zs0) => implMerge_any v0' zs0 wx g0 hn0
    obtain ⟨F, hFe⟩ : ∃ F, (mergeF zs0).1 = F := ⟨_, rfl⟩
    obtain ⟨C1, hC1e⟩ : ∃ F, (mergeF zs0).2 = F := ⟨_, rfl⟩
    rw [hFe, hC1e] at cS cI
    rw [hFe] at hF
    clear hFe hC1e hA0
    have hne1 : (C1 != C1) = false := by simp
    have hme : ((1 + 3 * (F.length : Int)) != (1 + 3 * (F.length : Int))) = false := by simp
    have HF := Lib.hid hF
    have hlt0 : ¬ ((1 : Int) + 3 * (zs0.length : Int) < 0) := by omega
    have hlt1 : ¬ ((1 : Int) + 3 * (F.length : Int) < 0) := by omega
    go_enter Try.func11, Try.ntmps11
    go_wp2_with fail
    refine (Z0q.out _ (HA0.out.below T0.out)).mono ?_
    rintro e w ⟨rfl, rfl⟩
    go_wp2_with fail
    refine (toMoveS_any _ zs0 _ (HA0.out.below T0.out) hn0).mono ?_
    rintro e w1 ⟨s0, rfl, own, hB⟩
    have T1 := Lib.hid (T0.out.trans (hB.mono T0.out.size))
    have Z1' := Lib.hid hB.size
    have S0_1 := Lib.hid own
    clear hB own
    go_wp2_with fail
    refine (cS.out s0 w1 S0_1.out.rel).mono ?_
    rintro e w2 ⟨r0, rfl, own, hB⟩
    have T2 := Lib.hid (T1.out.trans (hB.mono T1.out.size))
    have Z2' := Lib.hid hB.size
    have R2 := Lib.hid own
    have NR := Lib.hid (show ∀ k, (r0).ownBlock = some k → w1.heap.size ≤ k ∧ k < w2.heap.size from own.lt)
    clear hB S0_1 own
    go_wp2_with fail
    refine (toMoveS_any _ zs0 _ (HA0.out.below T2.out) hn0).mono ?_
    rintro e w3 ⟨x0', rfl, own, hB⟩
    have T3 := Lib.hid (T2.out.trans (hB.mono T2.out.size))
    have Z3' := Lib.hid hB.size
    have R3 := Lib.hid (R2.out.below hB)
    have X0_3 := Lib.hid own
    have NX0_ := Lib.hid (show ∀ k, (x0').ownBlock = some k → w2.heap.size ≤ k ∧ k < w3.heap.size from own.lt)
    clear hB R2 own
    go_wp2_with fail
    refine (cI.out x0' w3  X0_3.out.rel).mono ?_
    rintro e w4 ⟨g0, rfl, own, hB⟩
    have T4 := Lib.hid (T3.out.trans (hB.mono T3.out.size))
    have Z4' := Lib.hid hB.size
    have R4 := Lib.hid (R3.out.below hB)
    have X0_4 := Lib.hid (X0_3.out.below hB)
    have G4 := Lib.hid own
    have NG := Lib.hid (show ∀ k, (g0).ownBlock = some k → w3.heap.size ≤ k ∧ k < w4.heap.size from own.lt)
    clear hB R3 X0_3 own
    have PRX0_ := Lib.hid (apart_of (v1 := r0) (v2 := x0') (B := w2.heap.size) (fun k hk => by have := (NR.out k hk).2; exact this) (fun k hk => by have h1 := (NX0_.out k hk).1; have h2 : w2.heap.size ≤ w2.heap.size := (by omega); omega))
    have PRG := Lib.hid (apart_of (v1 := r0) (v2 := g0) (B := w2.heap.size) (fun k hk => by have := (NR.out k hk).2; exact this) (fun k hk => by have h1 := (NG.out k hk).1; have h2 : w2.heap.size ≤ w3.heap.size := (by have := Z3'.out; omega); omega))
    have PX0_G := Lib.hid (apart_of (v1 := x0') (v2 := g0) (B := w3.heap.size) (fun k hk => by have := (NX0_.out k hk).2; exact this) (fun k hk => by have h1 := (NG.out k hk).1; have h2 : w3.heap.size ≤ w3.heap.size := (by omega); omega))
    go_wp2_with fail
    refine (eqMoveS_self g0 r0 F w4 G4.out.rel R4.out.rel HF.out).mono ?_
    rintro e w5 ⟨rfl, hB⟩
    have T5 := Lib.hid (T4.out.trans (hB.mono T4.out.size))
    have Z5' := Lib.hid hB.size
    have R5 := Lib.hid (R4.out.below hB)
    have X0_5 := Lib.hid (X0_4.out.below hB)
    have G5 := Lib.hid (G4.out.below hB)
    clear hB R4 X0_4 G4
    go_wp2_with fail
    refine (toMoveS_any _ zs0 _ (HA0.out.below T5.out) hn0).mono ?_
    rintro e w6 ⟨y0, rfl, own, hB⟩
    have T6 := Lib.hid (T5.out.trans (hB.mono T5.out.size))
    have Z6' := Lib.hid hB.size
    have R6 := Lib.hid (R5.out.below hB)
    have X0_6 := Lib.hid (X0_5.out.below hB)
    have G6 := Lib.hid (G5.out.below hB)
    have Y6 := Lib.hid own
    clear hB R5 X0_5 G5 own
    go_wp2_with fail
    refine (eqMoveS_self x0' y0 zs0 w6 X0_6.out.rel Y6.out.rel (by omega)).mono ?_
    rintro e w7 ⟨rfl, hB⟩
    have T7 := Lib.hid (T6.out.trans (hB.mono T6.out.size))
    have Z7' := Lib.hid hB.size
    have R7 := Lib.hid (R6.out.below hB)
    have X0_7 := Lib.hid (X0_6.out.below hB)
    have G7 := Lib.hid (G6.out.below hB)
    clear hB R6 X0_6 G6 Y6
    go_wp2_with fail
    refine (markMv_any x0' zs0 _ w7 (1) X0_7.out (by omega) (by omega) (by omega)).mono ?_
    rintro e w8 ⟨rfl, own, hg⟩
    have T8 := Lib.hid (T7.out.grown hg T7.out.size fun k hk => by have := (NX0_.out k hk).1; have := T2.out.size; omega)
    have R8 := Lib.hid (R7.out.kept hg PRX0_.out.1)
    have G8 := Lib.hid (G7.out.kept hg PX0_G.out.2)
    have X0_8 := Lib.hid own
    clear hg own R7 X0_7 G7
    go_wp2_with fail
    refine (eqMoveS_self g0 r0 F w8 G8.out.rel R8.out.rel HF.out).mono ?_
    rintro e w9 ⟨rfl, hB⟩
    have T9 := Lib.hid (T8.out.trans (hB.mono T8.out.size))
    have Z9' := Lib.hid hB.size
    have R9 := Lib.hid (R8.out.below hB)
    have G9 := Lib.hid (G8.out.below hB)
    clear hB R8 G8
    go_wp2_with fail
    refine (markMv_any g0 F _ w9 1 G9.out HF.out (by omega) (by omega)).mono ?_
    rintro e w10 ⟨rfl, own, hg⟩
    have T10 := Lib.hid (T9.out.grown hg T9.out.size fun k hk => by have := (NG.out k hk).1; have := T3.out.size; omega)
    have R10 := Lib.hid (R9.out.kept hg PRG.out.1)
    have G10 := Lib.hid own
    clear hg own R9 G9
    go_wp2_with fail
    refine (heldMv_any g0 F.length w10 1 G10.out.rel HF.out (by omega) (by omega)).mono ?_
    rintro e w11 ⟨rfl, hB⟩
    have T11 := Lib.hid (T10.out.trans (hB.mono T10.out.size))
    have Z11' := Lib.hid hB.size
    have R11 := Lib.hid (R10.out.below hB)
    have G11 := Lib.hid (G10.out.below hB)
    clear hB R10 G10
    go_wp2_with fail
    refine (toMoveS_any _ zs0 _ (HA0.out.below T11.out) hn0).mono ?_
    rintro e w12 ⟨t0, rfl, own, hB⟩
    have T12 := Lib.hid (T11.out.trans (hB.mono T11.out.size))
    have Z12' := Lib.hid hB.size
    have R12 := Lib.hid (R11.out.below hB)
    have G12 := Lib.hid (G11.out.below hB)
    have T0_12 := Lib.hid own
    clear hB R11 G11 own
    go_wp2_with fail
    refine (cI.out t0 w12  T0_12.out.rel).mono ?_
    rintro e w13 ⟨h0, rfl, own, hB⟩
    have T13 := Lib.hid (T12.out.trans (hB.mono T12.out.size))
    have Z13' := Lib.hid hB.size
    have R13 := Lib.hid (R12.out.below hB)
    have G13 := Lib.hid (G12.out.below hB)
    have H13 := Lib.hid own
    clear hB R12 G12 T0_12 own
    go_wp2_with fail
    refine (eqMoveS_self h0 r0 F w13 H13.out.rel R13.out.rel HF.out).mono ?_
    rintro e w14 ⟨rfl, hB⟩
    have T14 := Lib.hid (T13.out.trans (hB.mono T13.out.size))
    have Z14' := Lib.hid hB.size
    have R14 := Lib.hid (R13.out.below hB)
    have G14 := Lib.hid (G13.out.below hB)
    clear hB R13 G13 H13
    go_wp2_with fail
    refine (heldMv_any g0 F.length w14 1 G14.out.rel HF.out (by omega) (by omega)).mono ?_
    rintro e w15 ⟨rfl, hB⟩
    have T15 := Lib.hid (T14.out.trans (hB.mono T14.out.size))
    have Z15' := Lib.hid hB.size
    have R15 := Lib.hid (R14.out.below hB)
    have G15 := Lib.hid (G14.out.below hB)
    clear hB R14 G14
    go_wp2_with fail
    go_ret
    exact ⟨rfl, T15.out⟩
  · skip
    have Z0q := Lib.hid fun wx hx => szMoveS_no (.slice a0 zs0.length c0) zs0 1048576 wx hx (by omega) (by omega) (by omega) hm0
    clear hA0
    go_enter Try.func11, Try.ntmps11
    go_wp2_with fail
    refine (Z0q.out _ (HA0.out.below T0.out)).mono ?_
    rintro e w ⟨rfl, rfl⟩
    go_wp2_with fail
    go_ret
    exact ⟨rfl, T0.out⟩
end Go.Proofs.Ytphinokacggnfaa
