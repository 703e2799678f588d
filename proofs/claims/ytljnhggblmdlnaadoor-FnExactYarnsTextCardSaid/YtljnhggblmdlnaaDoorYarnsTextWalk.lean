/-
  Proved here: the law on YarnsText answers true, for all arguments; condition: the library's table of powers and three errors of chapter 3 hold what the text lays.
-/
import Derived.Test.YtljnhggblmdlnaaDoorYtImpl
import Derived.Test.YtljnhggblmdlnaaDoorYnS
namespace Go.Proofs.YtljnhggblmdlnaaDoor
open Go.ChangeShapes Go.WideShapes Go.ChangeAt Go.RowKit

set_option linter.unusedVariables false in
set_option maxRecDepth 100000 in
set_option maxHeartbeats 2000000 in
theorem yarnsText_walk {H : Type} {enc : TypeId × Value → H} (w : World) (base : Nat)
    (v0 : Value) (d0 : DataW H) (p0 : List MemPlace) (o0 : Value.okWide Tryd.prog w .any base 31 v0) (k0 : DataW.Trod enc Tryd.prog w 0 (fun _ => true) true 31 v0 d0 p0)
    (p : Nat → Addr) (hs : Sent w p) (htab : Lib.TabIs Tryd.prog w "internal/strconv.uint64pow10" .u64 Lib.pow10Tab) :
    Calls Tryd.prog 5 #[v0] w fun e w' => e = .returned (.bool true) ∧ Below w.heap.size w w' := by
  have HSE := Lib.hid hs
  clear hs
  obtain ⟨ss, hA, hm⟩ := open_argY o0 k0
  clear o0 k0
  obtain ⟨a0, c0, rfl⟩ := hA.len
  have HA := Lib.hid hA
  by_cases hn : ss.length ≤ 1048576
  · have Z1 := Lib.hid fun wx hx => szYarnS_any (.slice a0 ss.length c0) ss 1048576 wx hx (by omega) (by omega) (by omega)
    have hl1 : ¬ ((1048576 : Int) - (ss.length : Int) < 0) := by omega
    have cS := Lib.hid fun v wx g => specYtText_any v ss wx g hn
    have cI := Lib.hid fun v wx hs g ht => implYtText_any p v ss wx hs g hn ht
    obtain ⟨X, hX⟩ : ∃ X, X = ytTextF ss := ⟨_, rfl⟩
    rw [← hX] at cS cI
    clear hX
    have hXX : ((⟨X.toArray⟩ : ByteArray).toList == (⟨X.toArray⟩ : ByteArray).toList) = true := by simp
    have HT := Lib.hid htab
    clear hA htab
    have T0 := Lib.hid (Below.refl w.heap.size w)
    go_enter Tryd.func5, Tryd.ntmps5
    go_wp2_with fail
    refine (Z1.out _ HA.out).mono ?_
    rintro e w0 ⟨rfl, rfl⟩
    go_wp2_with fail
    refine (toYarnS_any _ ss _ HA.out hn).mono ?_
    rintro e w1 ⟨s1, rfl, own, hB⟩
    have T1 := Lib.hid hB
    have S1 := Lib.hid own
    clear hB own
    go_wp2_with fail
    refine (cS.out s1 w1 S1.out.yarns).mono ?_
    rintro e w1b ⟨rfl, hB⟩
    have T1b := Lib.hid (T1.out.trans (hB.mono T1.out.size))
    clear S1 hB
    go_wp2_with fail
    refine (toYarnS_any _ ss _ (HA.out.below T1b.out) hn).mono ?_
    rintro e w2 ⟨x2, rfl, own, hB⟩
    have T2 := Lib.hid (T1b.out.trans (hB.mono T1b.out.size))
    have X2 := Lib.hid own
    clear hB own
    go_wp2_with fail
    refine (cI.out x2 w2 (HSE.out.below T2.out) X2.out.yarns (tab_below HT.out T2.out)).mono ?_
    rintro e w3 ⟨rfl, hB⟩
    have T3 := Lib.hid (T2.out.trans (hB.mono T2.out.size))
    have X3 := Lib.hid (X2.out.below hB)
    clear hB X2
    go_wp2_with fail
    refine (toYarnS_any _ ss _ (HA.out.below T3.out) hn).mono ?_
    rintro e w4 ⟨y4, rfl, own, hB⟩
    have T4 := Lib.hid (T3.out.trans (hB.mono T3.out.size))
    have X4 := Lib.hid (X3.out.below hB)
    have Y4 := Lib.hid own
    clear hB own X3
    go_wp2_with fail
    refine (eqYarnS_self x2 y4 ss w4 X4.out.yarns Y4.out.yarns (by omega)).mono ?_
    rintro e w5 ⟨rfl, hB⟩
    have T5 := Lib.hid (T4.out.trans (hB.mono T4.out.size))
    clear hB
    go_wp2
    go_ret
    exact ⟨rfl, T5.out⟩
  · have Z1 := Lib.hid fun wx hx => szYarnS_no (.slice a0 ss.length c0) ss 1048576 wx hx (by omega) (by omega) (by omega) hm
    clear hA
    go_enter Tryd.func5, Tryd.ntmps5
    go_wp2_with fail
    refine (Z1.out _ HA.out).mono ?_
    rintro e w0 ⟨rfl, rfl⟩
    go_wp2_with fail
    go_ret
    exact ⟨rfl, Below.refl _ _⟩
end Go.Proofs.YtljnhggblmdlnaaDoor
