/-
  Proved here: the law on PlyLong answers true, for all arguments; condition: the six errors of chapter 3 lie where the program's text lays them.
-/
import Derived.Test.YtpkjogenkdckpaaDoorSpools
import Derived.Test.YtpkjogenkdckpaaDoorYnS
namespace Go.Proofs.YtpkjogenkdckpaaDoor
open Go.ChangeShapes Go.WideShapes Go.ChangeAt Go.RowKit

set_option linter.unusedVariables false in
set_option maxRecDepth 100000 in
set_option maxHeartbeats 4000000 in
theorem plyLong_walk {H : Type} {enc : TypeId × Value → H} (w : World) (base : Nat)
    (v0 : Value) (d0 : DataW H) (p0 : List MemPlace) (o0 : Value.okWide Tryd.prog w .any base 37 v0) (k0 : DataW.Trod enc Tryd.prog w 0 (fun _ => true) true 37 v0 d0 p0)
    (v1 : Value) (d1 : DataW H) (p1 : List MemPlace) (o1 : Value.okWide Tryd.prog w .any base 2 v1) (k1 : DataW.Trod enc Tryd.prog w 0 (fun _ => true) true 2 v1 d1 p1)
    (p : Nat → Addr) (hs : Sent w p) :
    Calls Tryd.prog 6 #[v0, v1] w fun e w' => e = .returned (.bool true) ∧ Below w.heap.size w w' := by
  obtain ⟨ys, hY, hm⟩ := open_argY o0 k0
  clear o0 k0
  obtain ⟨x1, rfl, hx1⟩ := open_one Tryd.underlying2 o1
  clear o1 k1
  obtain ⟨a0, c0, rfl⟩ := hY.len
  have HS := Lib.hid hs
  have HY := Lib.hid hY
  clear hs
  by_cases hn : ys.length ≤ 1048576
  · have Z1 := Lib.hid fun wx hx => szYarnS_any (.slice a0 ys.length c0) ys 1048576 wx hx (by omega) (by omega) (by omega)
    have hl1 : ¬ ((1048576 : Int) - (ys.length : Int) < 0) := by omega
    have cS := Lib.hid fun v wx hv => specPlyLong_any v ys x1 wx hv hn
    have cI := Lib.hid fun v wx hs hv => implPlyLong_any p v ys x1 wx hs hv hn
    obtain ⟨R, hR⟩ : ∃ R, (pliedF ys x1).1 = R := ⟨_, rfl⟩
    obtain ⟨C, hC⟩ : ∃ C, (pliedF ys x1).2 = C := ⟨_, rfl⟩
    rw [hR, hC] at cS cI
    clear hR hC hY
    have hr : (R != R) = false := by simp
    have hcc : (C != C) = false := by simp
    go_enter Tryd.func6, Tryd.ntmps6
    go_wp2_with fail
    refine (Z1.out _ HY.out).mono ?_
    rintro e w0 ⟨rfl, rfl⟩
    go_wp2_with fail
    refine (toYarnS_any _ ys _ HY.out hn).mono ?_
    rintro e w1 ⟨s1, rfl, own, hB⟩
    have T1 := Lib.hid hB
    have S1 := Lib.hid own
    clear hB own
    go_wp2_with fail
    refine (cS.out s1 w1 S1.out.yarns).mono ?_
    rintro e w2 ⟨rfl, hB⟩
    have T2 := Lib.hid (T1.out.trans (hB.mono T1.out.size))
    clear S1 hB
    go_wp2_with fail
    refine (toYarnS_any _ ys _ (HY.out.below T2.out) hn).mono ?_
    rintro e w3 ⟨x0, rfl, own, hB⟩
    have T3 := Lib.hid (T2.out.trans (hB.mono T2.out.size))
    have X3 := Lib.hid own
    clear hB own
    go_wp2_with fail
    refine (cI.out x0 w3 (HS.out.below T3.out) X3.out.yarns).mono ?_
    rintro e w4 ⟨rfl, hB⟩
    have T4 := Lib.hid (T3.out.trans (hB.mono T3.out.size))
    have X4 := Lib.hid (X3.out.below hB)
    clear hB X3
    go_wp2_with fail
    refine (toYarnS_any _ ys _ (HY.out.below T4.out) hn).mono ?_
    rintro e w5 ⟨y5, rfl, own, hB⟩
    have T5 := Lib.hid (T4.out.trans (hB.mono T4.out.size))
    have X5 := Lib.hid (X4.out.below hB)
    have Y5 := Lib.hid own
    clear hB X4 own
    go_wp2_with fail
    refine (eqYarnS_self x0 y5 ys w5 X5.out.yarns Y5.out.yarns (by omega)).mono ?_
    rintro e w6 ⟨rfl, hB⟩
    have T6 := Lib.hid (T5.out.trans (hB.mono T5.out.size))
    clear hB
    go_wp2_with fail
    go_ret
    exact ⟨rfl, T6.out⟩
  · have Z1 := Lib.hid fun wx hx => szYarnS_no (.slice a0 ys.length c0) ys 1048576 wx hx (by omega) (by omega) (by omega) hm
    clear hY
    go_enter Tryd.func6, Tryd.ntmps6
    go_wp2_with fail
    refine (Z1.out _ HY.out).mono ?_
    rintro e w0 ⟨rfl, rfl⟩
    go_wp2_with fail
    go_ret
    exact ⟨rfl, Below.refl _ _⟩
end Go.Proofs.YtpkjogenkdckpaaDoor
