/-
  Proved here: the law on MovesText answers true, for all arguments; condition: the library's table of powers holds what its text lays.
-/
import Derived.Test.YtajaiahfoknkcaaDoorMtImpl
import Derived.Test.YtajaiahfoknkcaaDoorMvS
namespace Go.Proofs.YtajaiahfoknkcaaDoor
open Go.ChangeShapes Go.WideShapes Go.ChangeAt Go.RowKit

set_option linter.unusedVariables false in
set_option maxRecDepth 100000 in
set_option maxHeartbeats 2000000 in
theorem movesText_walk {H : Type} {enc : TypeId × Value → H} (w : World) (base : Nat)
    (v0 : Value) (d0 : DataW H) (p0 : List MemPlace) (o0 : Value.okWide Tryd.prog w .any base 22 v0) (k0 : DataW.Trod enc Tryd.prog w 0 (fun _ => true) true 22 v0 d0 p0)
    (htab : Lib.TabIs Tryd.prog w "internal/strconv.uint64pow10" .u64 Lib.pow10Tab) :
    Calls Tryd.prog 3 #[v0] w fun e w' => e = .returned (.bool true) ∧ Below w.heap.size w w' := by
  obtain ⟨ss, hA, hm⟩ := open_argMv o0 k0
  clear o0 k0
  obtain ⟨a0, c0, rfl⟩ := hA.len
  have HA := Lib.hid hA
  by_cases hn : ss.length ≤ 1048576
  · have Z1 := Lib.hid fun wx hx => szMoveS_any (.slice a0 ss.length c0) ss 1048576 wx hx (by omega) (by omega) (by omega)
    have hl1 : ¬ ((1048576 : Int) - (ss.length : Int) < 0) := by omega
    have cS := Lib.hid fun v wx g => specMtText_any v ss wx g hn
    have cI := Lib.hid fun v wx g ht => implMtText_any v ss wx g hn ht
    obtain ⟨X, hX⟩ : ∃ X, X = mtTextF ss := ⟨_, rfl⟩
    rw [← hX] at cS cI
    clear hX
    have hXX : ((⟨X.toArray⟩ : ByteArray).toList == (⟨X.toArray⟩ : ByteArray).toList) = true := by simp
    have HT := Lib.hid htab
    clear hA htab
    have T0 := Lib.hid (Below.refl w.heap.size w)
    go_enter Tryd.func3, Tryd.ntmps3
    go_wp2_with fail
    refine (Z1.out _ HA.out).mono ?_
    rintro e w0 ⟨rfl, rfl⟩
    go_wp2_with fail
    refine (toMoveS_any _ ss _ HA.out hn).mono ?_
    rintro e w1 ⟨s1, rfl, own, hB⟩
    have T1 := Lib.hid hB
    have S1 := Lib.hid own
    clear hB own
    go_wp2_with fail
    refine (cS.out s1 w1 S1.out.rel).mono ?_
    rintro e w1b ⟨rfl, hB⟩
    have T1b := Lib.hid (T1.out.trans (hB.mono T1.out.size))
    clear S1 hB
    go_wp2_with fail
    refine (toMoveS_any _ ss _ (HA.out.below T1b.out) hn).mono ?_
    rintro e w2 ⟨x2, rfl, own, hB⟩
    have T2 := Lib.hid (T1b.out.trans (hB.mono T1b.out.size))
    have X2 := Lib.hid own
    clear hB own
    go_wp2_with fail
    refine (cI.out x2 w2 X2.out.rel (tab_below HT.out T2.out)).mono ?_
    rintro e w3 ⟨rfl, hB⟩
    have T3 := Lib.hid (T2.out.trans (hB.mono T2.out.size))
    have X3 := Lib.hid (X2.out.below hB)
    clear hB X2
    go_wp2_with fail
    refine (toMoveS_any _ ss _ (HA.out.below T3.out) hn).mono ?_
    rintro e w4 ⟨y4, rfl, own, hB⟩
    have T4 := Lib.hid (T3.out.trans (hB.mono T3.out.size))
    have X4 := Lib.hid (X3.out.below hB)
    have Y4 := Lib.hid own
    clear hB own X3
    go_wp2_with fail
    refine (eqMoveS_self x2 y4 ss w4 X4.out.rel Y4.out.rel (by omega)).mono ?_
    rintro e w5 ⟨rfl, hB⟩
    have T5 := Lib.hid (T4.out.trans (hB.mono T4.out.size))
    clear hB
    go_wp2
    go_ret
    exact ⟨rfl, T5.out⟩
  · have Z1 := Lib.hid fun wx hx => szMoveS_no (.slice a0 ss.length c0) ss 1048576 wx hx (by omega) (by omega) (by omega) hm
    clear hA
    go_enter Tryd.func3, Tryd.ntmps3
    go_wp2_with fail
    refine (Z1.out _ HA.out).mono ?_
    rintro e w0 ⟨rfl, rfl⟩
    go_wp2_with fail
    go_ret
    exact ⟨rfl, Below.refl _ _⟩
end Go.Proofs.YtajaiahfoknkcaaDoor
