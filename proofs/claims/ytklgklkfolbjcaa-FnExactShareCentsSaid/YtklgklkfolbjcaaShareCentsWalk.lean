/-
  Proved here: the law on ShareCents answers true, for all arguments; condition: none.
-/
import Derived.Test.YtklgklkfolbjcaaScS
import Derived.Test.YtklgklkfolbjcaaScI
import Derived.Test.YtklgklkfolbjcaaIntsLaw
namespace Go.Proofs.Ytklgklkfolbjcaa
open Go.ChangeShapes Go.WideShapes Go.ChangeAt Go.RowKit

set_option linter.unusedVariables false in
set_option maxRecDepth 100000 in
set_option maxHeartbeats 8000000 in
theorem shareCents_walk {H : Type} {enc : TypeId × Value → H} (w : World) (base : Nat)
    (v0 : Value) (d0 : DataW H) (p0 : List MemPlace) (o0 : Value.okWide Try.prog w .any base 2 v0) (k0 : DataW.Trod enc Try.prog w 0 (fun _ => true) true 2 v0 d0 p0)
    (v1 : Value) (d1 : DataW H) (p1 : List MemPlace) (o1 : Value.okWide Try.prog w .any base 36 v1) (k1 : DataW.Trod enc Try.prog w 0 (fun _ => true) true 36 v1 d1 p1)
    :
    Calls Try.prog 8 #[v0, v1] w fun e w' => e = .returned (.bool true) ∧ Below w.heap.size w w' := by
  obtain ⟨x0, rfl, hx0⟩ := open_one Try.underlying2 o0
  clear o0 k0
  obtain ⟨zs1, hA1⟩ := open_arg o1 k1
  clear o1 k1
  obtain ⟨a1, c1, rfl⟩ := hA1.len
  have HA1 := Lib.hid hA1
  have T0 := Lib.hid (Below.refl w.heap.size w)
  by_cases hn1 : zs1.length ≤ 1048576
  · skip
    have hl1' : ¬ ((1048576 : Int) < (zs1.length : Int)) := by omega
    have hF := (shareF_len (c := x0) hn1)
    have cS := Lib.hid fun v1' wx (g1 : Ints wx v1' zs1) => specShare_any x0 v1' zs1 wx g1 hn1
    have cI := Lib.hid fun v1' wx  (g1 : Ints wx v1' zs1) => implShare_any x0 v1' zs1 wx g1 hn1
    obtain ⟨F, hFe⟩ : ∃ F, (shareF x0 zs1).1 = F := ⟨_, rfl⟩
    obtain ⟨C1, hC1e⟩ : ∃ F, (shareF x0 zs1).2 = F := ⟨_, rfl⟩
    rw [hFe, hC1e] at cS cI
    rw [hFe] at hF
    clear hFe hC1e hA1
    have hne1 : (C1 != C1) = false := by simp
    have hme : ((1 + (F.length : Int)) != (1 + (F.length : Int))) = false := by simp
    have HF := Lib.hid hF
    have hlt0 : ¬ ((1 : Int) + (zs1.length : Int) < 0) := by omega
    have hlt1 : ¬ ((1 : Int) + (F.length : Int) < 0) := by omega
    go_enter Try.func8, Try.ntmps8
    go_wp2_with fail
    refine (toInts_any _ zs1 _ (HA1.out.below T0.out) hn1).mono ?_
    rintro e w1 ⟨s1, rfl, own, hB⟩
    have T1 := Lib.hid (T0.out.trans (hB.mono T0.out.size))
    have Z1' := Lib.hid hB.size
    have S1_1 := Lib.hid own
    clear hB own
    go_wp2_with fail
    refine (cS.out s1 w1 S1_1.out.ints).mono ?_
    rintro e w2 ⟨r0, rfl, own, hB⟩
    have T2 := Lib.hid (T1.out.trans (hB.mono T1.out.size))
    have Z2' := Lib.hid hB.size
    have R2 := Lib.hid own
    have NR := Lib.hid (show ∀ k, (r0).ownBlock = some k → w1.heap.size ≤ k ∧ k < w2.heap.size from own.lt)
    clear hB S1_1 own
    go_wp2_with fail
    refine (toInts_any _ zs1 _ (HA1.out.below T2.out) hn1).mono ?_
    rintro e w3 ⟨x1', rfl, own, hB⟩
    have T3 := Lib.hid (T2.out.trans (hB.mono T2.out.size))
    have Z3' := Lib.hid hB.size
    have R3 := Lib.hid (R2.out.below hB)
    have X1_3 := Lib.hid own
    have NX1_ := Lib.hid (show ∀ k, (x1').ownBlock = some k → w2.heap.size ≤ k ∧ k < w3.heap.size from own.lt)
    clear hB R2 own
    go_wp2_with fail
    refine (cI.out x1' w3  X1_3.out.ints).mono ?_
    rintro e w4 ⟨g0, rfl, own, hB⟩
    have T4 := Lib.hid (T3.out.trans (hB.mono T3.out.size))
    have Z4' := Lib.hid hB.size
    have R4 := Lib.hid (R3.out.below hB)
    have X1_4 := Lib.hid (X1_3.out.below hB)
    have G4 := Lib.hid own
    have NG := Lib.hid (show ∀ k, (g0).ownBlock = some k → w3.heap.size ≤ k ∧ k < w4.heap.size from own.lt)
    clear hB R3 X1_3 own
    have PRX1_ := Lib.hid (apart_of (v1 := r0) (v2 := x1') (B := w2.heap.size) (fun k hk => by have := (NR.out k hk).2; exact this) (fun k hk => by have h1 := (NX1_.out k hk).1; have h2 : w2.heap.size ≤ w2.heap.size := (by omega); omega))
    have PRG := Lib.hid (apart_of (v1 := r0) (v2 := g0) (B := w2.heap.size) (fun k hk => by have := (NR.out k hk).2; exact this) (fun k hk => by have h1 := (NG.out k hk).1; have h2 : w2.heap.size ≤ w3.heap.size := (by have := Z3'.out; omega); omega))
    have PX1_G := Lib.hid (apart_of (v1 := x1') (v2 := g0) (B := w3.heap.size) (fun k hk => by have := (NX1_.out k hk).2; exact this) (fun k hk => by have h1 := (NG.out k hk).1; have h2 : w3.heap.size ≤ w3.heap.size := (by omega); omega))
    go_wp2_with fail
    refine (eqSelf_any g0 r0 F w4 G4.out.ints R4.out.ints HF.out).mono ?_
    rintro e w5 ⟨rfl, hB⟩
    have T5 := Lib.hid (T4.out.trans (hB.mono T4.out.size))
    have Z5' := Lib.hid hB.size
    have R5 := Lib.hid (R4.out.below hB)
    have X1_5 := Lib.hid (X1_4.out.below hB)
    have G5 := Lib.hid (G4.out.below hB)
    clear hB R4 X1_4 G4
    go_wp2_with fail
    refine (toInts_any _ zs1 _ (HA1.out.below T5.out) hn1).mono ?_
    rintro e w6 ⟨y1, rfl, own, hB⟩
    have T6 := Lib.hid (T5.out.trans (hB.mono T5.out.size))
    have Z6' := Lib.hid hB.size
    have R6 := Lib.hid (R5.out.below hB)
    have X1_6 := Lib.hid (X1_5.out.below hB)
    have G6 := Lib.hid (G5.out.below hB)
    have Y6 := Lib.hid own
    clear hB R5 X1_5 G5 own
    go_wp2_with fail
    refine (eqSelf_any x1' y1 zs1 w6 X1_6.out.ints Y6.out.ints (by omega)).mono ?_
    rintro e w7 ⟨rfl, hB⟩
    have T7 := Lib.hid (T6.out.trans (hB.mono T6.out.size))
    have Z7' := Lib.hid hB.size
    have R7 := Lib.hid (R6.out.below hB)
    have X1_7 := Lib.hid (X1_6.out.below hB)
    have G7 := Lib.hid (G6.out.below hB)
    clear hB R6 X1_6 G6 Y6
    go_wp2_with fail
    refine (mark_any x1' zs1 _ w7 (1) X1_7.out (by omega) (by omega) (by omega)).mono ?_
    rintro e w8 ⟨rfl, own, hg⟩
    have T8 := Lib.hid (T7.out.grown hg T7.out.size fun k hk => by have := (NX1_.out k hk).1; have := T2.out.size; omega)
    have R8 := Lib.hid (R7.out.kept hg PRX1_.out.1)
    have G8 := Lib.hid (G7.out.kept hg PX1_G.out.2)
    have X1_8 := Lib.hid own
    clear hg own R7 X1_7 G7
    go_wp2_with fail
    refine (eqSelf_any g0 r0 F w8 G8.out.ints R8.out.ints HF.out).mono ?_
    rintro e w9 ⟨rfl, hB⟩
    have T9 := Lib.hid (T8.out.trans (hB.mono T8.out.size))
    have Z9' := Lib.hid hB.size
    have R9 := Lib.hid (R8.out.below hB)
    have G9 := Lib.hid (G8.out.below hB)
    clear hB R8 G8
    go_wp2_with fail
    refine (mark_any g0 F _ w9 1 G9.out HF.out (by omega) (by omega)).mono ?_
    rintro e w10 ⟨rfl, own, hg⟩
    have T10 := Lib.hid (T9.out.grown hg T9.out.size fun k hk => by have := (NG.out k hk).1; have := T3.out.size; omega)
    have R10 := Lib.hid (R9.out.kept hg PRG.out.1)
    have G10 := Lib.hid own
    clear hg own R9 G9
    go_wp2_with fail
    refine (held_any g0 F.length w10 1 G10.out.ints HF.out (by omega) (by omega)).mono ?_
    rintro e w11 ⟨rfl, hB⟩
    have T11 := Lib.hid (T10.out.trans (hB.mono T10.out.size))
    have Z11' := Lib.hid hB.size
    have R11 := Lib.hid (R10.out.below hB)
    have G11 := Lib.hid (G10.out.below hB)
    clear hB R10 G10
    go_wp2_with fail
    refine (toInts_any _ zs1 _ (HA1.out.below T11.out) hn1).mono ?_
    rintro e w12 ⟨t1, rfl, own, hB⟩
    have T12 := Lib.hid (T11.out.trans (hB.mono T11.out.size))
    have Z12' := Lib.hid hB.size
    have R12 := Lib.hid (R11.out.below hB)
    have G12 := Lib.hid (G11.out.below hB)
    have T1_12 := Lib.hid own
    clear hB R11 G11 own
    go_wp2_with fail
    refine (cI.out t1 w12  T1_12.out.ints).mono ?_
    rintro e w13 ⟨h0, rfl, own, hB⟩
    have T13 := Lib.hid (T12.out.trans (hB.mono T12.out.size))
    have Z13' := Lib.hid hB.size
    have R13 := Lib.hid (R12.out.below hB)
    have G13 := Lib.hid (G12.out.below hB)
    have H13 := Lib.hid own
    clear hB R12 G12 T1_12 own
    go_wp2_with fail
    refine (eqSelf_any h0 r0 F w13 H13.out.ints R13.out.ints HF.out).mono ?_
    rintro e w14 ⟨rfl, hB⟩
    have T14 := Lib.hid (T13.out.trans (hB.mono T13.out.size))
    have Z14' := Lib.hid hB.size
    have R14 := Lib.hid (R13.out.below hB)
    have G14 := Lib.hid (G13.out.below hB)
    clear hB R13 G13 H13
    go_wp2_with fail
    refine (held_any g0 F.length w14 1 G14.out.ints HF.out (by omega) (by omega)).mono ?_
    rintro e w15 ⟨rfl, hB⟩
    have T15 := Lib.hid (T14.out.trans (hB.mono T14.out.size))
    have Z15' := Lib.hid hB.size
    have R15 := Lib.hid (R14.out.below hB)
    have G15 := Lib.hid (G14.out.below hB)
    clear hB R14 G14
    go_wp2_with fail
    go_ret
    exact ⟨rfl, T15.out⟩
  · have hgt : (1048576 : Int) < (zs1.length : Int) := by omega
    clear hA1
    go_enter Try.func8, Try.ntmps8
    go_wp2_with fail
    go_ret
    exact ⟨rfl, T0.out⟩
end Go.Proofs.Ytklgklkfolbjcaa
