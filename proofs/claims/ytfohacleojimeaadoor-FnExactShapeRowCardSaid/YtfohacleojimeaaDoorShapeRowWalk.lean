/-
  Proved here: the law on ShapeRow answers true, for all arguments; condition: the six errors of chapter 3 lie where the program's text lays them.
-/
import Derived.Test.YtfohacleojimeaaDoorShpT
namespace Go.Proofs.YtfohacleojimeaaDoor
open Go.ChangeShapes Go.WideShapes Go.ChangeAt Go.RowKit

set_option linter.unusedVariables false in
set_option maxRecDepth 100000 in
set_option maxHeartbeats 2000000 in
theorem shapeRow_walk {H : Type} {enc : TypeId × Value → H} (w : World) (base : Nat)
    (v0 : Value) (d0 : DataW H) (p0 : List MemPlace) (o0 : Value.okWide Tryd.prog w .any base 2 v0) (k0 : DataW.Trod enc Tryd.prog w 0 (fun _ => true) true 2 v0 d0 p0)
    (v1 : Value) (d1 : DataW H) (p1 : List MemPlace) (o1 : Value.okWide Tryd.prog w .any base 2 v1) (k1 : DataW.Trod enc Tryd.prog w 0 (fun _ => true) true 2 v1 d1 p1)
    (p : Nat → Addr) (hs : Sent w p) :
    Calls Tryd.prog 3 #[v0, v1] w fun e w' => e = .returned (.bool true) ∧ Below w.heap.size w w' := by
  obtain ⟨x0, rfl, hx0⟩ := open_one Tryd.underlying2 o0
  clear o0 k0 hx0
  obtain ⟨x1, rfl, hx1⟩ := open_one Tryd.underlying2 o1
  clear o1 k1 hx1
  have HS := Lib.hid fun wx => specShapeRow_any x0 x1 wx
  have HI := Lib.hid fun wx hx => implShapeRow_any p x0 x1 wx hx
  have HP := Lib.hid hs
  clear hs
  generalize (shapeF x0 x1).1 = a0 at *
  generalize (shapeF x0 x1).2 = a1 at *
  have e1 : (a1 != a1) = false := by simp
  go_enter Tryd.func3, Tryd.ntmps3
  go_wp2_with fail
  refine (HS.out _).mono ?_
  rintro e w1 ⟨rfl, hB⟩
  have B1 := Lib.hid hB
  clear hB
  go_wp2_with fail
  refine (HI.out _ (HP.out.below B1.out)).mono ?_
  rintro e w2 ⟨rfl, hB⟩
  have B2 := Lib.hid (B1.out.trans (hB.mono B1.out.size))
  clear hB
  go_wp2
  go_ret
  exact ⟨rfl, B2.out⟩
end Go.Proofs.YtfohacleojimeaaDoor
