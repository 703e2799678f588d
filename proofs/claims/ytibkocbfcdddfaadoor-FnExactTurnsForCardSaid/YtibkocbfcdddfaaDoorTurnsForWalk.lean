/-
  Proved here: the law on TurnsFor answers true, for all arguments; condition: the six errors of chapter 3 lie where the program's text lays them.
-/
import Derived.Test.YtibkocbfcdddfaaDoorTurns
namespace Go.Proofs.YtibkocbfcdddfaaDoor
open Go.ChangeShapes Go.WideShapes Go.ChangeAt Go.RowKit

set_option linter.unusedVariables false in
set_option maxRecDepth 100000 in
set_option maxHeartbeats 2000000 in
theorem turnsFor_walk {H : Type} {enc : TypeId × Value → H} (w : World) (base : Nat)
    (v0 : Value) (d0 : DataW H) (p0 : List MemPlace) (o0 : Value.okWide Tryd.prog w .any base 2 v0) (k0 : DataW.Trod enc Tryd.prog w 0 (fun _ => true) true 2 v0 d0 p0)
    (v1 : Value) (d1 : DataW H) (p1 : List MemPlace) (o1 : Value.okWide Tryd.prog w .any base 2 v1) (k1 : DataW.Trod enc Tryd.prog w 0 (fun _ => true) true 2 v1 d1 p1)
    (p : Nat → Addr) (hs : Sent w p) :
    Calls Tryd.prog 3 #[v0, v1] w fun e w' => e = .returned (.bool true) ∧ Below w.heap.size w w' := by
  obtain ⟨l, rfl, hl⟩ := open_one Tryd.underlying2 o0
  obtain ⟨r, rfl, hr⟩ := open_one Tryd.underlying2 o1
  clear o0 k0 o1 k1 hl hr
  have HS := Lib.hid fun wx => specTurns_any l r wx
  have HI := Lib.hid fun wx hx => implTurns_any p l r wx hx
  have HP := Lib.hid hs
  clear hs
  generalize (turnsF l r).1 = a at *
  generalize (turnsF l r).2.1 = b at *
  generalize (turnsF l r).2.2 = c at *
  have e1 : (a != a) = false := by simp
  have e2 : (b != b) = false := by simp
  have e3 : (c != c) = false := by simp
  go_enter Tryd.func3, Tryd.ntmps3
  go_wp2_with fail
  refine (HS.out _).mono ?_
  rintro e w1 ⟨rfl, hB⟩
  have B1 := Lib.hid hB
  clear hB
  go_wp2_with fail
  refine (HI.out _ (HP.out.below B1.out)).mono ?_
  rintro e w2 ⟨rfl, hB⟩
  have B2 := Lib.hid (B1.out.trans (hB.mono B1.out.size))
  clear hB
  go_wp2
  go_ret
  exact ⟨rfl, B2.out⟩
end Go.Proofs.YtibkocbfcdddfaaDoor
