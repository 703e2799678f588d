/-
  Proved here: the law on CardAll answers true, for all arguments; no condition.
-/
import Derived.Test.YtocpigibognfpaaCardOnce
import Derived.ChangeMaps5
namespace Go.Proofs.Ytocpigibognfpaa
open Go.ChangeShapes Go.WideShapes Go.ChangeAt Go.RowKit

set_option linter.unusedVariables false in
set_option maxRecDepth 100000 in
set_option maxHeartbeats 4000000 in
theorem cardAll_walk {H : Type} {enc : TypeId × Value → H} (w : World) (base : Nat)
    (v0 : Value) (d0 : DataW H) (p0 : List MemPlace) (o0 : Value.okWide Try.prog w .any base 24 v0) (k0 : DataW.Trod enc Try.prog w 0 (fun _ => true) true 24 v0 d0 p0)
    (v1 : Value) (d1 : DataW H) (p1 : List MemPlace) (o1 : Value.okWide Try.prog w .any base 9 v1) (k1 : DataW.Trod enc Try.prog w 0 (fun _ => true) true 9 v1 d1 p1)
    (v2 : Value) (d2 : DataW H) (p2 : List MemPlace) (o2 : Value.okWide Try.prog w .any base 2 v2) (k2 : DataW.Trod enc Try.prog w 0 (fun _ => true) true 2 v2 d2 p2) :
    Calls Try.prog 5 #[v0, v1, v2] w fun e w' => e = .returned (.bool true) ∧ Below w.heap.size w w' := by
  obtain ⟨zs, hA⟩ := open_arg o0 k0
  clear o0 k0
  obtain ⟨x1, rfl, _, _, _⟩ := Go.ChangeMaps.open_string Try.underlying9 o1 k1
  clear o1 k1
  obtain ⟨x2, rfl, hx2⟩ := open_one Try.underlying2 o2
  clear o2 k2
  obtain ⟨a0, c0, rfl⟩ := hA.len
  by_cases hs1 : (1048576 : Int) < (x1.size : Int)
  · by_cases hz : zs.length ≤ 1048576
    · have hz2 : (zs.length : Int) ≤ 1048576 := by omega
      clear hA hz
      go_enter Try.func5, Try.ntmps5
      go_wp2_with fail
      go_ret
      exact ⟨rfl, Below.refl _ _⟩
    · have hz2 : (1048576 : Int) < (zs.length : Int) := by omega
      clear hA hz
      go_enter Try.func5, Try.ntmps5
      go_wp2_with fail
      go_ret
      exact ⟨rfl, Below.refl _ _⟩
  have hs12 : (x1.size : Int) ≤ 1048576 := by omega
  clear hs1
  by_cases hn : zs.length ≤ 1048576
  · have hF := cardS_len zs x1 x2
    have cS := Lib.hid fun v wx hv => specCardS_any v zs x1 x2 wx hv hn
    have cI := Lib.hid fun v wx hv => implCardS_any v zs x1 x2 wx hv hn
    obtain ⟨F, hFe⟩ : ∃ F, (cardS zs x1 x2).1 = F := ⟨_, rfl⟩
    obtain ⟨D, hDe⟩ : ∃ D, (cardS zs x1 x2).2.1 = D := ⟨_, rfl⟩
    obtain ⟨C, hCe⟩ : ∃ C, (cardS zs x1 x2).2.2 = C := ⟨_, rfl⟩
    rw [hFe, hDe, hCe] at cS cI
    rw [hFe] at hF
    clear hFe hDe hCe
    have hnd : (D != D) = false := by simp
    have hne : (C != C) = false := by simp
    have hme : ((1 + (F.length : Int)) != (1 + (F.length : Int))) = false := by simp
    have HF := Lib.hid hF
    have hlt0 : ¬ ((1 : Int) + (zs.length : Int) < 0) := by omega
    have hlt1 : ¬ ((1 : Int) + (F.length : Int) < 0) := by omega
    have HA := Lib.hid hA
    clear hA
    have T0 := Lib.hid (Below.refl w.heap.size w)
    go_enter Try.func5, Try.ntmps5
    go_wp2_with fail
    refine (toInts_any _ zs _ HA.out hn).mono ?_
    rintro e w1 ⟨s1, rfl, own, hB⟩
    have T1 := Lib.hid (T0.out.trans (hB.mono T0.out.size))
    have Z1 := Lib.hid hB.size
    have S1 := Lib.hid own
    clear hB own
    go_wp2_with fail
    refine (cS.out s1 w1 S1.out.ints).mono ?_
    rintro e w2 ⟨r1, rfl, own, hB⟩
    have T2 := Lib.hid (T1.out.trans (hB.mono T1.out.size))
    have Z2 := Lib.hid hB.size
    have R2 := Lib.hid own
    clear hB S1 own
    go_wp2_with fail
    refine (toInts_any _ zs _ (HA.out.below T2.out) hn).mono ?_
    rintro e w3 ⟨x0, rfl, own, hB⟩
    have T3 := Lib.hid (T2.out.trans (hB.mono T2.out.size))
    have Z3 := Lib.hid hB.size
    have R3 := Lib.hid (R2.out.below hB)
    have X3 := Lib.hid own
    have PRX : Hid (r1.ownBlock = none ∨ r1.ownBlock ≠ x0.ownBlock) := R2.out.apart' own (Nat.le_refl _)
    clear hB R2 own
    go_wp2_with fail
    refine (cI.out x0 w3 X3.out.ints).mono ?_
    rintro e w4 ⟨g0, rfl, own, hB⟩
    have T4 := Lib.hid (T3.out.trans (hB.mono T3.out.size))
    have Z4 := Lib.hid hB.size
    have R4 := Lib.hid (R3.out.below hB)
    have X4 := Lib.hid (X3.out.below hB)
    have G4 := Lib.hid own
    have PGX : Hid (g0.ownBlock = none ∨ g0.ownBlock ≠ x0.ownBlock) := X3.out.apart own (Nat.le_refl _)
    have PRG : Hid (r1.ownBlock = none ∨ r1.ownBlock ≠ g0.ownBlock) := R3.out.apart' own (Nat.le_refl _)
    clear hB R3 X3 own
    go_wp2_with fail
    refine (eqSelf_any g0 r1 F w4 G4.out.ints R4.out.ints HF.out).mono ?_
    rintro e w5 ⟨rfl, hB⟩
    have T5 := Lib.hid (T4.out.trans (hB.mono T4.out.size))
    have Z5 := Lib.hid hB.size
    have R5 := Lib.hid (R4.out.below hB)
    have X5 := Lib.hid (X4.out.below hB)
    have G5 := Lib.hid (G4.out.below hB)
    clear hB R4 X4 G4
    go_wp2_with fail
    refine (toInts_any _ zs _ (HA.out.below T5.out) hn).mono ?_
    rintro e w6 ⟨y0, rfl, own, hB⟩
    have T6 := Lib.hid (T5.out.trans (hB.mono T5.out.size))
    have Z6 := Lib.hid hB.size
    have R6 := Lib.hid (R5.out.below hB)
    have X6 := Lib.hid (X5.out.below hB)
    have G6 := Lib.hid (G5.out.below hB)
    have Y6 := Lib.hid own
    clear hB R5 X5 G5 own
    go_wp2_with fail
    refine (eqSelf_any x0 y0 zs w6 X6.out.ints Y6.out.ints (by omega)).mono ?_
    rintro e w7 ⟨rfl, hB⟩
    have T7 := Lib.hid (T6.out.trans (hB.mono T6.out.size))
    have Z7 := Lib.hid hB.size
    have R7 := Lib.hid (R6.out.below hB)
    have X7 := Lib.hid (X6.out.below hB)
    have G7 := Lib.hid (G6.out.below hB)
    clear hB R6 X6 G6 Y6
    go_wp2_with fail
    refine (mark_any x0 zs _ w7 1 X7.out (by omega) (by omega) (by omega)).mono ?_
    rintro e w8 ⟨rfl, own, hg⟩
    have T8 := Lib.hid (T7.out.trans (below_of_grown X7.out hg T2.out.size T7.out.size))
    have R8 := Lib.hid (R7.out.kept hg PRX.out)
    have G8 := Lib.hid (G7.out.kept hg PGX.out)
    have X8 := Lib.hid own
    clear own hg R7 X7 G7
    go_wp2_with fail
    refine (eqSelf_any g0 r1 F w8 G8.out.ints R8.out.ints HF.out).mono ?_
    rintro e w9 ⟨rfl, hB⟩
    have T9 := Lib.hid (T8.out.trans (hB.mono T8.out.size))
    have Z9 := Lib.hid hB.size
    have R9 := Lib.hid (R8.out.below hB)
    have G9 := Lib.hid (G8.out.below hB)
    clear hB R8 G8 X8
    go_wp2_with fail
    refine (mark_any g0 F _ w9 1 G9.out HF.out (by omega) (by omega)).mono ?_
    rintro e w10 ⟨rfl, own, hg⟩
    have T10 := Lib.hid (T9.out.trans (below_of_grown G9.out hg T3.out.size T9.out.size))
    have R10 := Lib.hid (R9.out.kept hg PRG.out)
    have G10 := Lib.hid own
    clear own hg R9 G9
    go_wp2_with fail
    refine (held_any g0 F.length w10 1 G10.out.ints HF.out (by omega) (by omega)).mono ?_
    rintro e w11 ⟨rfl, hB⟩
    have T11 := Lib.hid (T10.out.trans (hB.mono T10.out.size))
    have Z11 := Lib.hid hB.size
    have R11 := Lib.hid (R10.out.below hB)
    have G11 := Lib.hid (G10.out.below hB)
    clear hB R10 G10
    go_wp2_with fail
    refine (toInts_any _ zs _ (HA.out.below T11.out) hn).mono ?_
    rintro e w12 ⟨s12, rfl, own, hB⟩
    have T12 := Lib.hid (T11.out.trans (hB.mono T11.out.size))
    have Z12 := Lib.hid hB.size
    have R12 := Lib.hid (R11.out.below hB)
    have G12 := Lib.hid (G11.out.below hB)
    have S12 := Lib.hid own
    clear hB R11 G11 own
    go_wp2_with fail
    refine (cI.out s12 w12 S12.out.ints).mono ?_
    rintro e w13 ⟨h13, rfl, own, hB⟩
    have T13 := Lib.hid (T12.out.trans (hB.mono T12.out.size))
    have Z13 := Lib.hid hB.size
    have R13 := Lib.hid (R12.out.below hB)
    have G13 := Lib.hid (G12.out.below hB)
    have H13 := Lib.hid own
    clear hB R12 G12 S12 own
    go_wp2_with fail
    refine (eqSelf_any h13 r1 F w13 H13.out.ints R13.out.ints HF.out).mono ?_
    rintro e w14 ⟨rfl, hB⟩
    have T14 := Lib.hid (T13.out.trans (hB.mono T13.out.size))
    have Z14 := Lib.hid hB.size
    have R14 := Lib.hid (R13.out.below hB)
    have G14 := Lib.hid (G13.out.below hB)
    clear hB R13 G13 H13
    go_wp2_with fail
    refine (held_any g0 F.length w14 1 G14.out.ints HF.out (by omega) (by omega)).mono ?_
    rintro e w15 ⟨rfl, hB⟩
    have T15 := Lib.hid (T14.out.trans (hB.mono T14.out.size))
    have Z15 := Lib.hid hB.size
    have R15 := Lib.hid (R14.out.below hB)
    have G15 := Lib.hid (G14.out.below hB)
    clear hB R14 G14
    go_wp2_with fail
    go_ret
    exact ⟨rfl, T15.out⟩
  · have hgt : (1048576 : Int) < (zs.length : Int) := by omega
    go_enter Try.func5, Try.ntmps5
    go_wp2_with fail
    go_ret
    exact ⟨rfl, Below.refl _ _⟩
end Go.Proofs.Ytocpigibognfpaa
