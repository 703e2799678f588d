/-
  Proved here: the law on ShapeRows answers true, for all arguments; condition: the program's errors lie where its text lays them.
-/
import Derived.Test.YtfohacleojimeaaDoorShrS
import Derived.Test.YtfohacleojimeaaDoorShrI
import Derived.Test.YtfohacleojimeaaDoorHdT
namespace Go.Proofs.YtfohacleojimeaaDoor
open Go.ChangeShapes Go.WideShapes Go.ChangeAt Go.RowKit

set_option linter.unusedVariables false in
set_option maxRecDepth 100000 in
set_option maxHeartbeats 4000000 in
theorem shapeRows_walk {H : Type} {enc : TypeId × Value → H} (w : World) (base : Nat)
    (v0 : Value) (d0 : DataW H) (p0 : List MemPlace) (o0 : Value.okWide Tryd.prog w .any base 2 v0) (k0 : DataW.Trod enc Tryd.prog w 0 (fun _ => true) true 2 v0 d0 p0)
    (v1 : Value) (d1 : DataW H) (p1 : List MemPlace) (o1 : Value.okWide Tryd.prog w .any base 2 v1) (k1 : DataW.Trod enc Tryd.prog w 0 (fun _ => true) true 2 v1 d1 p1)
    (v2 : Value) (d2 : DataW H) (p2 : List MemPlace) (o2 : Value.okWide Tryd.prog w .any base 2 v2) (k2 : DataW.Trod enc Tryd.prog w 0 (fun _ => true) true 2 v2 d2 p2)
    (p : Nat → Addr) (hs : Sent w p) :
    Calls Tryd.prog 4 #[v0, v1, v2] w fun e w' => e = .returned (.bool true) ∧ Below w.heap.size w w' := by
  obtain ⟨x0, rfl, hx0⟩ := open_one Tryd.underlying2 o0
  clear o0 k0 hx0
  obtain ⟨x1, rfl, hx1⟩ := open_one Tryd.underlying2 o1
  clear o1 k1 hx1
  obtain ⟨x2, rfl, hx2⟩ := open_one Tryd.underlying2 o2
  clear o2 k2 hx2
  have HS := Lib.hid fun wx => specRows_any x0 x1 x2 wx
  have HI := Lib.hid fun wx hx => implRows_any p x0 x1 x2 wx hx
  have HP := Lib.hid hs
  have hF := rowsF_len x0 x1 x2
  clear hs
  generalize (rowsF x0 x1 x2).1 = F at *
  generalize (rowsF x0 x1 x2).2 = C at *
  have hne : (C != C) = false := by simp
  have hme : ((1 + (F.length : Int)) != (1 + (F.length : Int))) = false := by simp
  have hlt1 : ¬ ((1 : Int) + (F.length : Int) < 0) := by omega
  have HF := Lib.hid (show F.length ≤ 2097152 by omega)
  clear hF
  have T0 := Lib.hid (Below.refl w.heap.size w)
  go_enter Tryd.func4, Tryd.ntmps4
  go_wp2_with fail
  refine (HS.out _).mono ?_
  rintro e w1 ⟨r0, rfl, own, hB⟩
  have T1 := Lib.hid hB
  have R1 := Lib.hid own
  have L1 := Lib.hid own.lt
  clear hB own
  go_wp2_with fail
  refine (HI.out _ (HP.out.below T1.out)).mono ?_
  rintro e w2 ⟨g0, rfl, own, hB⟩
  have T2 := Lib.hid (T1.out.trans (hB.mono T1.out.size))
  have R2 := Lib.hid (R1.out.below hB)
  have G2 := Lib.hid own
  have P := Lib.hid (OwnT.apart' R1.out own (Nat.le_refl _))
  have hlg := own.lt
  have LG := Lib.hid hlg
  clear hB own R1 hlg
  go_wp2_with fail
  refine (eqStrs_self g0 r0 F w2 G2.out.strs R2.out.strs HF.out).mono ?_
  rintro e w3 ⟨rfl, hB⟩
  have T3 := Lib.hid (T2.out.trans (hB.mono T2.out.size))
  have R3 := Lib.hid (R2.out.below hB)
  have G3 := Lib.hid (G2.out.below hB)
  clear hB R2 G2
  go_wp2_with fail
  refine (markStrs_any g0 F _ w3 1 G3.out HF.out (by omega) (by omega)).mono ?_
  rintro e w4 ⟨rfl, own, hg⟩
  have T4 := Lib.hid (T3.out.grown hg T3.out.size fun k hk => Nat.le_trans T1.out.size (LG.out k hk).1)
  have R4 := Lib.hid (R3.out.kept hg P.out)
  have G4 := Lib.hid own
  clear own hg R3 G3
  go_wp2_with fail
  refine (heldStrs_any g0 F.length w4 1 G4.out.strs HF.out (by omega) (by omega)).mono ?_
  rintro e w5 ⟨rfl, hB⟩
  have T5 := Lib.hid (T4.out.trans (hB.mono T4.out.size))
  have R5 := Lib.hid (R4.out.below hB)
  have G5 := Lib.hid (G4.out.below hB)
  clear hB R4 G4
  go_wp2_with fail
  refine (HI.out _ (HP.out.below T5.out)).mono ?_
  rintro e w6 ⟨h0, rfl, own, hB⟩
  have T6 := Lib.hid (T5.out.trans (hB.mono T5.out.size))
  have R6 := Lib.hid (R5.out.below hB)
  have G6 := Lib.hid (G5.out.below hB)
  have H6 := Lib.hid own
  clear hB own R5 G5
  go_wp2_with fail
  refine (eqStrs_self h0 r0 F w6 H6.out.strs R6.out.strs HF.out).mono ?_
  rintro e w7 ⟨rfl, hB⟩
  have T7 := Lib.hid (T6.out.trans (hB.mono T6.out.size))
  have G7 := Lib.hid (G6.out.below hB)
  clear hB R6 G6 H6
  go_wp2_with fail
  refine (heldStrs_any g0 F.length w7 1 G7.out.strs HF.out (by omega) (by omega)).mono ?_
  rintro e w8 ⟨rfl, hB⟩
  have T8 := Lib.hid (T7.out.trans (hB.mono T7.out.size))
  clear hB G7
  go_wp2_with fail
  go_ret
  exact ⟨rfl, T8.out⟩
end Go.Proofs.YtfohacleojimeaaDoor
