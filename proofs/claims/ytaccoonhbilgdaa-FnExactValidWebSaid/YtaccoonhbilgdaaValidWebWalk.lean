/-
  Proved here: the law on ValidWeb answers true, for all arguments; no condition.
-/
import Derived.Test.YtaccoonhbilgdaaWeb
namespace Go.Proofs.Ytaccoonhbilgdaa
open Go.ChangeShapes Go.WideShapes Go.ChangeAt Go.RowKit

set_option maxRecDepth 100000 in
set_option maxHeartbeats 1000000 in
theorem specValid_any (v : Value) (zs : List Int) (w : World) (h : Ints w v zs) (hn : zs.length ≤ 1048576) :
    Calls Try.prog 15 #[v] w fun e w' => e = .returned (.bool (okW zs)) ∧ w = w' := by
  have hin := Lib.hid (l02Ok_any v zs w h hn)
  clear h
  generalize okW zs = ok at *
  go_enter Try.func15, Try.ntmps15
  go_wp2_with fail
  refine hin.out.mono ?_
  rintro e w' ⟨rfl, rfl⟩
  go_wp2
  go_ret
  exact ⟨rfl, rfl⟩

set_option linter.unusedVariables false in
set_option maxRecDepth 100000 in
set_option maxHeartbeats 4000000 in
theorem validWeb_walk {H : Type} {enc : TypeId × Value → H} (w : World) (base : Nat)
    (v0 : Value) (d0 : DataW H) (p0 : List MemPlace) (o0 : Value.okWide Try.prog w .any base 22 v0) (k0 : DataW.Trod enc Try.prog w 0 (fun _ => true) true 22 v0 d0 p0) :
    Calls Try.prog 3 #[v0] w fun e w' => e = .returned (.bool true) ∧ Below w.heap.size w w' := by
  obtain ⟨zs, hA⟩ := open_arg o0 k0
  clear o0 k0
  obtain ⟨a0, c0, rfl⟩ := hA.len
  by_cases hn : zs.length ≤ 1048576
  · have cS := Lib.hid fun v wx hv => specValid_any v zs wx hv hn
    have cI := Lib.hid fun v wx hv => valid_any v zs wx hv hn
    obtain ⟨C, hCe⟩ : ∃ C, okW zs = C := ⟨_, rfl⟩
    rw [hCe] at cS cI
    clear hCe
    have hne : (C != C) = false := by simp
    have HA := Lib.hid hA
    clear hA
    go_enter Try.func3, Try.ntmps3
    go_wp2_with fail
    refine (toInts_any _ zs _ HA.out hn).mono ?_
    rintro e w1 ⟨s1, rfl, os1, hB1⟩
    have T1 := Lib.hid hB1
    have S1 := Lib.hid os1
    clear hB1 os1
    go_wp2_with fail
    refine (cS.out s1 w1 S1.out.ints).mono ?_
    rintro e w2 ⟨rfl, rfl⟩
    clear S1
    go_wp2_with fail
    refine (toInts_any _ zs _ (HA.out.below T1.out) hn).mono ?_
    rintro e w3 ⟨x0, rfl, ox3, hB3⟩
    have T3 := Lib.hid (T1.out.trans (hB3.mono T1.out.size))
    have X3 := Lib.hid ox3
    clear hB3 ox3
    go_wp2_with fail
    refine (cI.out x0 w3 X3.out.ints).mono ?_
    rintro e w4 ⟨rfl, rfl⟩
    go_wp2_with fail
    refine (toInts_any _ zs _ (HA.out.below T3.out) hn).mono ?_
    rintro e w5 ⟨y5, rfl, oy5, hB5⟩
    have T5 := Lib.hid (T3.out.trans (hB5.mono T3.out.size))
    have X5 := Lib.hid (X3.out.below hB5)
    have Y5 := Lib.hid oy5
    clear hB5 X3 oy5
    go_wp2_with fail
    refine (eqSelf_any x0 y5 zs w5 X5.out.ints Y5.out.ints (by omega)).mono ?_
    rintro e w6 ⟨rfl, hB6⟩
    have T6 := Lib.hid (T5.out.trans (hB6.mono T5.out.size))
    clear hB6
    go_wp2_with fail
    go_ret
    exact ⟨rfl, T6.out⟩
  · have hgt : (1048576 : Int) < (zs.length : Int) := by omega
    go_enter Try.func3, Try.ntmps3
    go_wp2_with fail
    go_ret
    exact ⟨rfl, Below.refl _ _⟩
end Go.Proofs.Ytaccoonhbilgdaa
