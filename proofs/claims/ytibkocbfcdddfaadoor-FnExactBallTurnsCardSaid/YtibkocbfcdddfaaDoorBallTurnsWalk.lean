/-
  Proved here: the law on BallTurns answers true, for all arguments; condition: the six errors of chapter 3 lie where the program's text lays them.
-/
import Derived.Test.YtibkocbfcdddfaaDoorBallT
namespace Go.Proofs.YtibkocbfcdddfaaDoor
open Go.ChangeShapes Go.WideShapes Go.ChangeAt Go.RowKit

set_option linter.unusedVariables false in
set_option maxRecDepth 100000 in
set_option maxHeartbeats 2000000 in
theorem ballTurns_walk {H : Type} {enc : TypeId × Value → H} (w : World) (base : Nat)
    (v0 : Value) (d0 : DataW H) (p0 : List MemPlace) (o0 : Value.okWide Tryd.prog w .any base 2 v0) (k0 : DataW.Trod enc Tryd.prog w 0 (fun _ => true) true 2 v0 d0 p0)
    (v1 : Value) (d1 : DataW H) (p1 : List MemPlace) (o1 : Value.okWide Tryd.prog w .any base 2 v1) (k1 : DataW.Trod enc Tryd.prog w 0 (fun _ => true) true 2 v1 d1 p1)
    (v2 : Value) (d2 : DataW H) (p2 : List MemPlace) (o2 : Value.okWide Tryd.prog w .any base 2 v2) (k2 : DataW.Trod enc Tryd.prog w 0 (fun _ => true) true 2 v2 d2 p2)
    (v3 : Value) (d3 : DataW H) (p3 : List MemPlace) (o3 : Value.okWide Tryd.prog w .any base 2 v3) (k3 : DataW.Trod enc Tryd.prog w 0 (fun _ => true) true 2 v3 d3 p3)
    (p : Nat → Addr) (hs : Sent w p) :
    Calls Tryd.prog 5 #[v0, v1, v2, v3] w fun e w' => e = .returned (.bool true) ∧ Below w.heap.size w w' := by
  obtain ⟨x0, rfl, hx0⟩ := open_one Tryd.underlying2 o0
  clear o0 k0 hx0
  obtain ⟨x1, rfl, hx1⟩ := open_one Tryd.underlying2 o1
  clear o1 k1 hx1
  obtain ⟨x2, rfl, hx2⟩ := open_one Tryd.underlying2 o2
  clear o2 k2 hx2
  obtain ⟨x3, rfl, hx3⟩ := open_one Tryd.underlying2 o3
  clear o3 k3 hx3
  have HS := Lib.hid fun wx => specBallTurns_any x0 x1 x2 x3 wx
  have HI := Lib.hid fun wx hx => implBallTurns_any p x0 x1 x2 x3 wx hx
  have HP := Lib.hid hs
  clear hs
  generalize (ballF x0 x1 x2 x3).1 = a0 at *
  generalize (ballF x0 x1 x2 x3).2.1 = a1 at *
  generalize (ballF x0 x1 x2 x3).2.2 = a2 at *
  have e0 : (a0 != a0) = false := by simp
  have e1 : (a1 != a1) = false := by simp
  have e2 : (a2 != a2) = false := by simp
  go_enter Tryd.func5, Tryd.ntmps5
  go_wp2_with fail
  refine (HS.out _).mono ?_
  rintro e w1 ⟨rfl, rfl⟩
  have B1 := Lib.hid (Below.refl w.heap.size w)
  go_wp2_with fail
  refine (HI.out _ (HP.out.below B1.out)).mono ?_
  rintro e w2 ⟨rfl, hB⟩
  have B2 := Lib.hid (B1.out.trans (hB.mono B1.out.size))
  clear hB
  go_wp2
  go_ret
  exact ⟨rfl, B2.out⟩
end Go.Proofs.YtibkocbfcdddfaaDoor
