/-
  Proved here: the law on WebText answers true, for all arguments; condition: the library's table of powers holds what its text lays.
-/
import Derived.Test.YtohhahhdlfaakaaDoorTextImpl
import Derived.Test.YtohhahhdlfaakaaDoorIntsMark
namespace Go.Proofs.YtohhahhdlfaakaaDoor
open Go.ChangeShapes Go.WideShapes Go.ChangeAt Go.RowKit

set_option linter.unusedVariables false in
set_option maxRecDepth 100000 in
set_option maxHeartbeats 4000000 in
theorem webText_walk {H : Type} {enc : TypeId × Value → H} (w : World) (base : Nat)
    (v0 : Value) (d0 : DataW H) (p0 : List MemPlace) (o0 : Value.okWide Tryd.prog w .any base 22 v0) (k0 : DataW.Trod enc Tryd.prog w 0 (fun _ => true) true 22 v0 d0 p0)
    (htab : Lib.TabIs Tryd.prog w "internal/strconv.uint64pow10" .u64 Lib.pow10Tab) :
    Calls Tryd.prog 3 #[v0] w fun e w' => e = .returned (.bool true) ∧ Below w.heap.size w w' := by
  obtain ⟨zs, hA⟩ := open_arg o0 k0
  clear o0 k0
  obtain ⟨a0, c0, rfl⟩ := hA.len
  by_cases hn : zs.length ≤ 1048576
  · have cS := Lib.hid fun v wx hv => specText_any v zs wx hv hn
    have cI := Lib.hid fun v wx hv ht => implText_any v zs wx hv hn ht
    obtain ⟨X, hX⟩ : ∃ X, X = textF zs := ⟨_, rfl⟩
    rw [← hX] at cS cI
    clear hX
    have hXX : ((⟨X.toArray⟩ : ByteArray).toList == (⟨X.toArray⟩ : ByteArray).toList) = true := by simp
    have HA := Lib.hid hA
    have HT := Lib.hid htab
    have T0 := Lib.hid (Below.refl w.heap.size w)
    clear hA htab
    go_enter Tryd.func3, Tryd.ntmps3
    go_wp2_with fail
    refine (toInts_any _ zs _ HA.out hn).mono ?_
    rintro e w1 ⟨s1, rfl, own, hB⟩
    have T1 := Lib.hid (T0.out.trans (hB.mono T0.out.size))
    have S1 := Lib.hid own
    clear hB own
    go_wp2_with fail
    refine (cS.out s1 w1 S1.out.ints).mono ?_
    rintro e w2 ⟨rfl, hB⟩
    have T2 := Lib.hid (T1.out.trans (hB.mono T1.out.size))
    clear hB S1
    go_wp2_with fail
    refine (toInts_any _ zs _ (HA.out.below T2.out) hn).mono ?_
    rintro e w3 ⟨x0, rfl, own, hB⟩
    have T3 := Lib.hid (T2.out.trans (hB.mono T2.out.size))
    have X3 := Lib.hid own
    clear hB own
    go_wp2_with fail
    refine (cI.out x0 w3 X3.out.ints (tab_below HT.out T3.out)).mono ?_
    rintro e w4 ⟨rfl, hB⟩
    have T4 := Lib.hid (T3.out.trans (hB.mono T3.out.size))
    have X4 := Lib.hid (X3.out.below hB)
    clear hB
    go_wp2_with fail
    refine (toInts_any _ zs _ (HA.out.below T4.out) hn).mono ?_
    rintro e w5 ⟨y0, rfl, own, hB⟩
    have T5 := Lib.hid (T4.out.trans (hB.mono T4.out.size))
    have X5 := Lib.hid (X4.out.below hB)
    have Y5 := Lib.hid own
    clear hB own
    go_wp2_with fail
    refine (eqSelf_any x0 y0 zs w5 X5.out.ints Y5.out.ints (by omega)).mono ?_
    rintro e w6 ⟨rfl, hB⟩
    have T6 := Lib.hid (T5.out.trans (hB.mono T5.out.size))
    clear hB
    go_wp2_with fail
    go_ret
    exact ⟨rfl, T6.out⟩
  · have hgt : (1048576 : Int) < (zs.length : Int) := by omega
    go_enter Tryd.func3, Tryd.ntmps3
    go_wp2_with fail
    go_ret
    exact ⟨rfl, Below.refl _ _⟩
end Go.Proofs.YtohhahhdlfaakaaDoor
