/-
  Proved here: the law on MayMove answers true, for all arguments; condition: none.
-/
import Derived.Test.YtphinokacggnfaaMayV
namespace Go.Proofs.Ytphinokacggnfaa
open Go.ChangeShapes Go.WideShapes Go.ChangeAt Go.RowKit

set_option linter.unusedVariables false in
set_option maxRecDepth 100000 in
set_option maxHeartbeats 8000000 in
theorem mayMove_walk {H : Type} {enc : TypeId × Value → H} (w : World) (base : Nat)
    (v0 : Value) (d0 : DataW H) (p0 : List MemPlace) (o0 : Value.okWide Try.prog w .any base 2 v0) (k0 : DataW.Trod enc Try.prog w 0 (fun _ => true) true 2 v0 d0 p0)
    (v1 : Value) (d1 : DataW H) (p1 : List MemPlace) (o1 : Value.okWide Try.prog w .any base 2 v1) (k1 : DataW.Trod enc Try.prog w 0 (fun _ => true) true 2 v1 d1 p1)
    :
    Calls Try.prog 4 #[v0, v1] w fun e w' => e = .returned (.bool true) ∧ Below w.heap.size w w' := by
  obtain ⟨x0, rfl, hx0⟩ := open_one Try.underlying2 o0
  clear o0 k0
  obtain ⟨x1, rfl, hx1⟩ := open_one Try.underlying2 o1
  clear o1 k1
  have T0 := Lib.hid (Below.refl w.heap.size w)
  have cS := Lib.hid fun  wx  => specMay_b x0 x1 wx
  have cI := Lib.hid fun  wx   => implMay_b x0 x1 wx
  obtain ⟨C0, hC0e⟩ : ∃ F, (mayB x0 x1) = F := ⟨_, rfl⟩
  rw [hC0e] at cS cI
  clear hC0e 
  have hne0 : (C0 != C0) = false := by simp
  have hne0' : (C0 == C0) = true := by simp
  go_enter Try.func4, Try.ntmps4
  go_wp2_with fail
  refine (cS.out  _ ).mono ?_
  rintro e w1 ⟨rfl, hB⟩
  have T1 := Lib.hid (T0.out.trans (hB.mono T0.out.size))
  have Z1' := Lib.hid hB.size
  clear hB
  go_wp2_with fail
  refine (cI.out  w1  ).mono ?_
  rintro e w2 ⟨rfl, hB⟩
  have T2 := Lib.hid (T1.out.trans (hB.mono T1.out.size))
  have Z2' := Lib.hid hB.size
  clear hB
  go_wp2_with fail
  go_ret
  exact ⟨rfl, T2.out⟩
end Go.Proofs.Ytphinokacggnfaa
