/-
  Proved here: the law on ValidStrands answers true, for all arguments; no condition.
-/
import Derived.Test.YtibkocbfcdddfaaSnOk
import Derived.Test.YtibkocbfcdddfaaSnS
namespace Go.Proofs.Ytibkocbfcdddfaa
open Go.ChangeShapes Go.WideShapes Go.ChangeAt Go.RowKit

theorem specStrands_any (v : Value) (ss : List Sn) (w : World) (h : Strands w v ss) (hn : ss.length ≤ 1048576) :
    Calls Try.prog 8 #[v] w fun e w' => e = .returned (.bool (allS ss)) ∧ w = w' := by
  have H := Lib.hid (l04Strands_any v ss w h hn)
  clear h
  go_enter Try.func8, Try.ntmps8
  go_wp2_with fail
  refine H.out.mono ?_
  rintro e w2 ⟨rfl, rfl⟩
  go_wp2
  go_ret
  exact ⟨rfl, rfl⟩

set_option linter.unusedVariables false in
set_option maxRecDepth 100000 in
set_option maxHeartbeats 2000000 in
theorem validStrands_walk {H : Type} {enc : TypeId × Value → H} (w : World) (base : Nat)
    (v0 : Value) (d0 : DataW H) (p0 : List MemPlace) (o0 : Value.okWide Try.prog w .any base 22 v0) (k0 : DataW.Trod enc Try.prog w 0 (fun _ => true) true 22 v0 d0 p0) :
    Calls Try.prog 3 #[v0] w fun e w' => e = .returned (.bool true) ∧ Below w.heap.size w w' := by
  obtain ⟨ss, hA, hm⟩ := open_argSt o0 k0
  clear o0 k0
  obtain ⟨a0, c0, rfl⟩ := hA.len
  have HA := Lib.hid hA
  by_cases hn : ss.length ≤ 1048576
  · have Z1 := Lib.hid fun wx hx => szStrandS_any (.slice a0 ss.length c0) ss 1048576 wx hx (by omega) (by omega) (by omega)
    have hl1 : ¬ ((1048576 : Int) - (ss.length : Int) < 0) := by omega
    have cS := Lib.hid fun v wx g => specStrands_any v ss wx g hn
    have cI := Lib.hid fun v wx g => implStrands_any v ss wx g hn
    generalize allS ss = r at *
    have hne : (r == r) = true := by simp
    clear hA
    have T0 := Lib.hid (Below.refl w.heap.size w)
    go_enter Try.func3, Try.ntmps3
    go_wp2_with fail
    refine (Z1.out _ HA.out).mono ?_
    rintro e w0 ⟨rfl, rfl⟩
    go_wp2_with fail
    refine (toStrandS_any _ ss _ HA.out hn).mono ?_
    rintro e w1 ⟨s1, rfl, own, hB⟩
    have T1 := Lib.hid hB
    have S1 := Lib.hid own
    clear hB own
    go_wp2_with fail
    refine (cS.out s1 w1 S1.out.strands).mono ?_
    rintro e w' ⟨rfl, rfl⟩
    clear S1
    go_wp2_with fail
    refine (toStrandS_any _ ss _ (HA.out.below T1.out) hn).mono ?_
    rintro e w2 ⟨x2, rfl, own, hB⟩
    have T2 := Lib.hid (T1.out.trans (hB.mono T1.out.size))
    have X2 := Lib.hid own
    clear hB own
    go_wp2_with fail
    refine (cI.out x2 w2 X2.out.strands).mono ?_
    rintro e w3 ⟨rfl, hB⟩
    have T3 := Lib.hid (T2.out.trans (hB.mono T2.out.size))
    have X3 := Lib.hid (X2.out.below hB)
    clear hB X2
    go_wp2_with fail
    refine (toStrandS_any _ ss _ (HA.out.below T3.out) hn).mono ?_
    rintro e w4 ⟨y4, rfl, own, hB⟩
    have T4 := Lib.hid (T3.out.trans (hB.mono T3.out.size))
    have X4 := Lib.hid (X3.out.below hB)
    have Y4 := Lib.hid own
    clear hB own X3
    go_wp2_with fail
    refine (eqStrandS_self x2 y4 ss w4 X4.out.strands Y4.out.strands (by omega)).mono ?_
    rintro e w5 ⟨rfl, hB⟩
    have T5 := Lib.hid (T4.out.trans (hB.mono T4.out.size))
    clear hB
    go_wp2
    go_ret
    exact ⟨rfl, T5.out⟩
  · have Z1 := Lib.hid fun wx hx => szStrandS_no (.slice a0 ss.length c0) ss 1048576 wx hx (by omega) (by omega) (by omega) hm
    clear hA
    go_enter Try.func3, Try.ntmps3
    go_wp2_with fail
    refine (Z1.out _ HA.out).mono ?_
    rintro e w0 ⟨rfl, rfl⟩
    go_wp2_with fail
    go_ret
    exact ⟨rfl, Below.refl _ _⟩
end Go.Proofs.Ytibkocbfcdddfaa
