/-
  Proved here: the law on CheckReels answers true, for all arguments; condition: the six errors of chapter 3 lie where the program's text lays them.
-/
import Derived.Test.YtaanjjmochfhgaaDoorCheckRI
import Derived.Test.YtaanjjmochfhgaaDoorCheckRS
import Derived.Test.YtaanjjmochfhgaaDoorSnS
import Derived.Test.YtaanjjmochfhgaaDoorSnMark
import Derived.Test.YtaanjjmochfhgaaDoorIntsLaw
import Derived.Test.YtaanjjmochfhgaaDoorOpenM
import Derived.Test.YtaanjjmochfhgaaDoorBox1
namespace Go.Proofs.YtaanjjmochfhgaaDoor
open Go.ChangeShapes Go.WideShapes Go.ChangeAt Go.RowKit

set_option linter.unusedVariables false in
set_option maxRecDepth 100000 in
set_option maxHeartbeats 8000000 in
theorem checkReels_walk {H : Type} {enc : TypeId × Value → H} (w : World) (base : Nat)
    (v0 : Value) (d0 : DataW H) (p0 : List MemPlace) (o0 : Value.okWide Tryd.prog w .any base 22 v0) (k0 : DataW.Trod enc Tryd.prog w 0 (fun _ => true) true 22 v0 d0 p0)
    (v1 : Value) (d1 : DataW H) (p1 : List MemPlace) (o1 : Value.okWide Tryd.prog w .any base 2 v1) (k1 : DataW.Trod enc Tryd.prog w 0 (fun _ => true) true 2 v1 d1 p1)
    (v2 : Value) (d2 : DataW H) (p2 : List MemPlace) (o2 : Value.okWide Tryd.prog w .any base 23 v2) (k2 : DataW.Trod enc Tryd.prog w 0 (fun _ => true) true 23 v2 d2 p2)
    (v3 : Value) (d3 : DataW H) (p3 : List MemPlace) (o3 : Value.okWide Tryd.prog w .any base 33 v3) (k3 : DataW.Trod enc Tryd.prog w 0 (fun _ => true) true 33 v3 d3 p3)
    (p : Nat → Addr) (hs : Sent w p) :
    Calls Tryd.prog 4 #[v0, v1, v2, v3] w fun e w' => e = .returned (.bool true) ∧ Below w.heap.size w w' := by
  obtain ⟨m0, rfl, h8_0⟩ := open_meets o0
  clear o0 k0
  obtain ⟨x1, rfl, hx1⟩ := open_one Tryd.underlying2 o1
  clear o1 k1
  obtain ⟨zs2, hA2, hm2⟩ := open_argSt o2 k2
  clear o2 k2
  obtain ⟨a2, c2, rfl⟩ := hA2.len
  obtain ⟨zs3, hA3⟩ := open_arg o3 k3
  clear o3 k3
  obtain ⟨a3, c3, rfl⟩ := hA3.len
  have HS := Lib.hid hs
  clear hs
  have HA2 := Lib.hid hA2
  have HA3 := Lib.hid hA3
  have X0 := Lib.hid (box1_made w 22 m0)
  have T0 := Lib.hid X0.out.under
  have HM := Lib.hid fun wx => toMeets_any m0 wx
  by_cases hn3 : zs3.length ≤ 1048576
  · skip
    by_cases hn2 : zs2.length ≤ 1048576
    · skip
      have Z1 := Lib.hid fun wx hx => szStrandS_any (.slice a2 zs2.length c2) zs2 1048576 wx hx (by omega) (by omega) (by omega)
      have hl1 : ¬ ((1048576 : Int) - (zs2.length : Int) < 0) := by omega
      have hl3' : ¬ ((1048576 : Int) < (zs3.length : Int)) := by omega
      have cS := Lib.hid fun v2' v3' wx (g2 : Strands wx v2' zs2) (g3 : Ints wx v3' zs3) => specCheckR_any m0 x1 v2' v3' zs2 zs3 wx h8_0 g2 hn2 g3 hn3
      have cI := Lib.hid fun v2' v3' wx (hs : Sent wx p) (g2 : Strands wx v2' zs2) (g3 : Ints wx v3' zs3) => implCheckR_any p m0 x1 v2' v3' zs2 zs3 wx hs h8_0 g2 hn2 g3 hn3
      obtain ⟨C0, hC0e⟩ : ∃ F, (checkRF m0 x1 zs2 zs3).1 = F := ⟨_, rfl⟩
      obtain ⟨C1, hC1e⟩ : ∃ F, (checkRF m0 x1 zs2 zs3).2 = F := ⟨_, rfl⟩
      rw [hC0e, hC1e] at cS cI
      clear hC0e hC1e hA2 hA3
      have hne0 : (C0 != C0) = false := by simp
      have hne0' : (C0 == C0) = true := by simp
      have hne1 : (C1 != C1) = false := by simp
      unfold mv at *
      go_enter Tryd.func4, Tryd.ntmps4
      go_wp2_with fail
      refine (Z1.out _ (HA2.out.below T0.out)).mono ?_
      rintro e w0 ⟨rfl, rfl⟩
      obtain ⟨c0, c1, c2, c3, c4, c5, _, _⟩ := X0.out
      go_wp2_with fail
      refine (HM.out _).mono ?_
      rintro e w1 ⟨rfl, hB⟩
      have T1 := Lib.hid (T0.out.trans (hB.mono T0.out.size))
      have Z1' := Lib.hid hB.size
      have X1 := Lib.hid (box1_below X0.out hB)
      clear hB c0 c1 c2 c3 c4 c5 X0
      go_wp2_with fail
      refine (toStrandS_any _ zs2 _ (HA2.out.below T1.out) hn2).mono ?_
      rintro e w2 ⟨s2, rfl, own, hB⟩
      have T2 := Lib.hid (T1.out.trans (hB.mono T1.out.size))
      have Z2' := Lib.hid hB.size
      have X2 := Lib.hid (box1_below X1.out hB)
      have S2_2 := Lib.hid own
      clear hB own X1
      go_wp2_with fail
      refine (toInts_any _ zs3 _ (HA3.out.below T2.out) hn3).mono ?_
      rintro e w3 ⟨s3, rfl, own, hB⟩
      have T3 := Lib.hid (T2.out.trans (hB.mono T2.out.size))
      have Z3' := Lib.hid hB.size
      have X3 := Lib.hid (box1_below X2.out hB)
      have S2_3 := Lib.hid (S2_2.out.below hB)
      have S3_3 := Lib.hid own
      clear hB S2_2 own X2
      go_wp2_with fail
      refine (cS.out s2 s3 w3 S2_3.out.strands S3_3.out.ints).mono ?_
      rintro e w4 ⟨rfl, hB⟩
      have T4 := Lib.hid (T3.out.trans (hB.mono T3.out.size))
      have Z4' := Lib.hid hB.size
      have X4 := Lib.hid (box1_below X3.out hB)
      clear hB S2_3 S3_3 X3
      go_wp2_with fail
      refine (toStrandS_any _ zs2 _ (HA2.out.below T4.out) hn2).mono ?_
      rintro e w5 ⟨x2', rfl, own, hB⟩
      have T5 := Lib.hid (T4.out.trans (hB.mono T4.out.size))
      have Z5' := Lib.hid hB.size
      have X5 := Lib.hid (box1_below X4.out hB)
      have X2_5 := Lib.hid own
      clear hB own X4
      go_wp2_with fail
      refine (toInts_any _ zs3 _ (HA3.out.below T5.out) hn3).mono ?_
      rintro e w6 ⟨x3', rfl, own, hB⟩
      have T6 := Lib.hid (T5.out.trans (hB.mono T5.out.size))
      have Z6' := Lib.hid hB.size
      have X6 := Lib.hid (box1_below X5.out hB)
      have X2_6 := Lib.hid (X2_5.out.below hB)
      have X3_6 := Lib.hid own
      clear hB X2_5 own X5
      obtain ⟨c0, c1, c2, c3, c4, c5, _, _⟩ := X6.out
      go_wp2_with fail
      refine (HM.out _).mono ?_
      rintro e w7 ⟨rfl, hB⟩
      have T7 := Lib.hid (T6.out.trans (hB.mono T6.out.size))
      have Z7' := Lib.hid hB.size
      have X7 := Lib.hid (box1_below X6.out hB)
      have X2_7 := Lib.hid (X2_6.out.below hB)
      have X3_7 := Lib.hid (X3_6.out.below hB)
      clear hB X2_6 X3_6 c0 c1 c2 c3 c4 c5 X6
      go_wp2_with fail
      refine (cI.out x2' x3' w7 (HS.out.below T7.out) X2_7.out.strands X3_7.out.ints).mono ?_
      rintro e w8 ⟨rfl, hB⟩
      have T8 := Lib.hid (T7.out.trans (hB.mono T7.out.size))
      have Z8' := Lib.hid hB.size
      have X8 := Lib.hid (box1_below X7.out hB)
      have X2_8 := Lib.hid (X2_7.out.below hB)
      have X3_8 := Lib.hid (X3_7.out.below hB)
      clear hB X2_7 X3_7 X7
      go_wp2_with fail
      refine (toStrandS_any _ zs2 _ (HA2.out.below T8.out) hn2).mono ?_
      rintro e w9 ⟨y2, rfl, own, hB⟩
      have T9 := Lib.hid (T8.out.trans (hB.mono T8.out.size))
      have Z9' := Lib.hid hB.size
      have X9 := Lib.hid (box1_below X8.out hB)
      have X2_9 := Lib.hid (X2_8.out.below hB)
      have X3_9 := Lib.hid (X3_8.out.below hB)
      have Y9 := Lib.hid own
      clear hB X2_8 X3_8 own X8
      go_wp2_with fail
      refine (eqStrandS_self x2' y2 zs2 w9 X2_9.out.strands Y9.out.strands (by omega)).mono ?_
      rintro e w10 ⟨rfl, hB⟩
      have T10 := Lib.hid (T9.out.trans (hB.mono T9.out.size))
      have Z10' := Lib.hid hB.size
      have X10 := Lib.hid (box1_below X9.out hB)
      have X2_10 := Lib.hid (X2_9.out.below hB)
      have X3_10 := Lib.hid (X3_9.out.below hB)
      clear hB X2_9 X3_9 Y9 X9
      go_wp2_with fail
      refine (toInts_any _ zs3 _ (HA3.out.below T10.out) hn3).mono ?_
      rintro e w11 ⟨y3, rfl, own, hB⟩
      have T11 := Lib.hid (T10.out.trans (hB.mono T10.out.size))
      have Z11' := Lib.hid hB.size
      have X11 := Lib.hid (box1_below X10.out hB)
      have X2_11 := Lib.hid (X2_10.out.below hB)
      have X3_11 := Lib.hid (X3_10.out.below hB)
      have Y11 := Lib.hid own
      clear hB X2_10 X3_10 own X10
      go_wp2_with fail
      refine (eqSelf_any x3' y3 zs3 w11 X3_11.out.ints Y11.out.ints (by omega)).mono ?_
      rintro e w12 ⟨rfl, hB⟩
      have T12 := Lib.hid (T11.out.trans (hB.mono T11.out.size))
      have Z12' := Lib.hid hB.size
      have X12 := Lib.hid (box1_below X11.out hB)
      have X2_12 := Lib.hid (X2_11.out.below hB)
      have X3_12 := Lib.hid (X3_11.out.below hB)
      clear hB X2_11 X3_11 Y11 X11
      go_wp2_with fail
      go_ret
      exact ⟨rfl, T12.out⟩
    · have Z1 := Lib.hid fun wx hx => szStrandS_no (.slice a2 zs2.length c2) zs2 1048576 wx hx (by omega) (by omega) (by omega) hm2
      have hl3' : ¬ ((1048576 : Int) < (zs3.length : Int)) := by omega
      clear hA2 hA3
      unfold mv at *
      go_enter Tryd.func4, Tryd.ntmps4
      go_wp2_with fail
      refine (Z1.out _ (HA2.out.below T0.out)).mono ?_
      rintro e w0 ⟨rfl, rfl⟩
      go_wp2_with fail
      go_ret
      exact ⟨rfl, T0.out⟩
  · have hgt : (1048576 : Int) < (zs3.length : Int) := by omega
    clear hA2 hA3
    unfold mv at *
    go_enter Tryd.func4, Tryd.ntmps4
    go_wp2_with fail
    go_ret
    exact ⟨rfl, T0.out⟩
end Go.Proofs.YtaanjjmochfhgaaDoor
