/-
  Proved here: the law on ReadWeb answers true, for all arguments; condition: the library's variables hold what they should.
-/
import Derived.Test.YtljnhggblmdlnaaDoorReadImpl
import Derived.Test.YtljnhggblmdlnaaDoorReadSpec
import Derived.ChangeMaps5
import Derived.Test.YtljnhggblmdlnaaDoorIntsLaw
namespace Go.Proofs.YtljnhggblmdlnaaDoor
open Go.ChangeShapes Go.WideShapes Go.ChangeAt Go.RowKit

set_option linter.unusedVariables false in
set_option maxRecDepth 100000 in
set_option maxHeartbeats 4000000 in
theorem readWeb_walk {H : Type} {enc : TypeId × Value → H} (w : World) (base : Nat)
    (v0 : Value) (d0 : DataW H) (p0 : List MemPlace) (o0 : Value.okWide Tryd.prog w .any base 9 v0) (k0 : DataW.Trod enc Tryd.prog w 0 (fun _ => true) true 9 v0 d0 p0)
    (henv : Env w) :
    Calls Tryd.prog 4 #[v0] w fun e w' => e = .returned (.bool true) ∧ Below w.heap.size w w' := by
  obtain ⟨s, rfl, _, _, _⟩ := Go.ChangeMaps.open_string Tryd.underlying9 o0 k0
  clear o0 k0
  by_cases hs : s.size ≤ 1048576
  · have hs2 : (s.size : Int) ≤ 1048576 := by omega
    have hF := readF_len s.data.toList
    have cS := Lib.hid fun wx => specRead_any s wx hs
    have cI := Lib.hid fun wx hv => implRead_any s wx hs hv
    obtain ⟨F, hFe⟩ : ∃ F, (readF s.data.toList).1 = F := ⟨_, rfl⟩
    obtain ⟨C, hCe⟩ : ∃ C, (readF s.data.toList).2 = C := ⟨_, rfl⟩
    rw [hFe, hCe] at cS cI
    rw [hFe] at hF
    clear hFe hCe
    have hne : (C != C) = false := by simp
    have hme : ((1 + (F.length : Int)) != (1 + (F.length : Int))) = false := by simp
    have HF := Lib.hid hF
    have hlt1 : ¬ ((1 : Int) + (F.length : Int) < 0) := by omega
    have HV := Lib.hid henv
    have T0 := Lib.hid (Below.refl w.heap.size w)
    clear henv hs
    go_enter Tryd.func4, Tryd.ntmps4
    go_wp2_with fail
    refine (cS.out w).mono ?_
    rintro e w1 ⟨r1, rfl, own, hB⟩
    have T1 := Lib.hid (T0.out.trans (hB.mono T0.out.size))
    have R1 := Lib.hid own
    clear hB own
    go_wp2_with fail
    refine (cI.out w1 (HV.out.below T1.out)).mono ?_
    rintro e w2 ⟨g0, rfl, own, hB⟩
    have T2 := Lib.hid (T1.out.trans (hB.mono T1.out.size))
    have R2 := Lib.hid (R1.out.below hB)
    have PRG : Hid (r1.ownBlock = none ∨ r1.ownBlock ≠ g0.ownBlock) := R1.out.apart' own (Nat.le_refl _)
    have G2 := Lib.hid own
    clear hB own
    go_wp2_with fail
    refine (eqSelf_any g0 r1 F w2 G2.out.ints R2.out.ints HF.out).mono ?_
    rintro e w3 ⟨rfl, hB⟩
    have T3 := Lib.hid (T2.out.trans (hB.mono T2.out.size))
    have R3 := Lib.hid (R2.out.below hB)
    have G3 := Lib.hid (G2.out.below hB)
    clear hB R2 G2
    go_wp2_with fail
    refine (mark_any g0 F _ w3 1 G3.out HF.out (by omega) (by omega)).mono ?_
    rintro e w4 ⟨rfl, own, hg⟩
    have T4 := Lib.hid (T3.out.trans (below_of_grown G3.out hg T1.out.size T3.out.size))
    have R4 := Lib.hid (R3.out.kept hg PRG.out)
    have G4 := Lib.hid own
    clear own hg R3 G3
    go_wp2_with fail
    refine (held_any g0 F.length w4 1 G4.out.ints HF.out (by omega) (by omega)).mono ?_
    rintro e w5 ⟨rfl, hB⟩
    have T5 := Lib.hid (T4.out.trans (hB.mono T4.out.size))
    have R5 := Lib.hid (R4.out.below hB)
    have G5 := Lib.hid (G4.out.below hB)
    clear hB R4 G4
    go_wp2_with fail
    refine (cI.out w5 (HV.out.below T5.out)).mono ?_
    rintro e w6 ⟨h0, rfl, own, hB⟩
    have T6 := Lib.hid (T5.out.trans (hB.mono T5.out.size))
    have R6 := Lib.hid (R5.out.below hB)
    have G6 := Lib.hid (G5.out.below hB)
    have H6 := Lib.hid own
    clear hB own R5 G5
    go_wp2_with fail
    refine (eqSelf_any h0 r1 F w6 H6.out.ints R6.out.ints HF.out).mono ?_
    rintro e w7 ⟨rfl, hB⟩
    have T7 := Lib.hid (T6.out.trans (hB.mono T6.out.size))
    have G7 := Lib.hid (G6.out.below hB)
    clear hB R6 G6 H6
    go_wp2_with fail
    refine (held_any g0 F.length w7 1 G7.out.ints HF.out (by omega) (by omega)).mono ?_
    rintro e w8 ⟨rfl, hB⟩
    have T8 := Lib.hid (T7.out.trans (hB.mono T7.out.size))
    clear hB
    go_wp2_with fail
    go_ret
    exact ⟨rfl, T8.out⟩
  · have hgt : (1048576 : Int) < (s.size : Int) := by omega
    clear henv
    go_enter Tryd.func4, Tryd.ntmps4
    go_wp2_with fail
    go_ret
    exact ⟨rfl, Below.refl _ _⟩
end Go.Proofs.YtljnhggblmdlnaaDoor
