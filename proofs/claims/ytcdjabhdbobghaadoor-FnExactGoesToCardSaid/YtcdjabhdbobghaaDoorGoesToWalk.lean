/-
  Proved here: the law on GoesTo answers true, for all arguments; condition: the six errors of chapter 3 lie where the program's text lays them.
-/
import Derived.Test.YtcdjabhdbobghaaDoorGoT
import Derived.Test.YtcdjabhdbobghaaDoorGoI
import Derived.Test.YtcdjabhdbobghaaDoorLpO
namespace Go.Proofs.YtcdjabhdbobghaaDoor
open Go.ChangeShapes Go.WideShapes Go.ChangeAt Go.RowKit

set_option linter.unusedVariables false in
set_option maxRecDepth 100000 in
set_option maxHeartbeats 16000000 in
theorem goesTo_walk {H : Type} {enc : TypeId × Value → H} (w : World) (base : Nat)
    (v0 : Value) (d0 : DataW H) (p0 : List MemPlace) (o0 : Value.okWide Tryd.prog w .any base 25 v0) (k0 : DataW.Trod enc Tryd.prog w 0 (fun _ => true) true 25 v0 d0 p0)
    (v1 : Value) (d1 : DataW H) (p1 : List MemPlace) (o1 : Value.okWide Tryd.prog w .any base 27 v1) (k1 : DataW.Trod enc Tryd.prog w 0 (fun _ => true) true 27 v1 d1 p1)
    (p : Nat → Addr) (hs : Sent w p) :
    Calls Tryd.prog 3 #[v0, v1] w fun e w' => e = .returned (.bool true) ∧ Below w.heap.size w w' := by
  obtain ⟨c0, s0, L0, rfl, hc0, hA0, hm0, hz0⟩ := open_fabric o0 k0
  clear o0 k0
  obtain ⟨y1, z1, rfl, hx1⟩ := open_loop o1
  clear o1 k1
  have HS := Lib.hid hs
  clear hs
  by_cases hw : weight L0 ≤ 1048576
  · have hn0 : L0.length ≤ 1048576 := by unfold weight at hw; omega
    have hsz0 : ∀ j, j < L0.length → (rowAt L0 j).size ≤ 1048576 := fun j hj => by have := size_of L0 j hj; unfold weight at hw; unfold rowAt; omega
    have HSZ := Lib.hid fun wx hx => szFabric_yes c0 s0 L0 1048576 wx hx (by omega) (by omega) hm0 hz0 (by omega)
    have cS := Lib.hid fun u wx (g : Strs wx u L0) => specGoes_any c0 u L0 y1 z1 wx hc0 g hn0 hsz0 hx1.1 hx1.2
    have cI := Lib.hid fun u wx (hs : Sent wx p) (g : Strs wx u L0) => implGoes_any p c0 u L0 y1 z1 wx hs hc0 g hn0 hsz0 hx1.1 hx1.2
    obtain ⟨C0, hC0e⟩ : ∃ F, (goesF c0 L0 y1 z1).1 = F := ⟨_, rfl⟩
    obtain ⟨C1, hC1e⟩ : ∃ F, (goesF c0 L0 y1 z1).2 = F := ⟨_, rfl⟩
    rw [hC0e, hC1e] at cS cI
    clear hC0e hC1e
    have hne0 : (C0 != C0) = false := by simp
    have hne1 : (C1 != C1) = false := by simp
    obtain ⟨a0, q0, rfl⟩ := hA0.len
    have HA := Lib.hid hA0
    have HTo := Lib.hid fun wx (hB : Below w.heap.size w wx) => toFabric_any c0 _ L0 wx (HA.out.below hB) hn0
    have HLo := Lib.hid fun wx => toLoop_any y1 z1 wx
    have HEq := Lib.hid fun a b wx ha hb => eqFabric_self c0 a b L0 wx ha hb (by omega)
    have X0 := Lib.hid (hb_two w (.int .i16 c0) (.slice a0 L0.length q0) (.int .i16 y1) (.int .i16 z1) 25 27).1
    have Z0 := Lib.hid (hb_two w (.int .i16 c0) (.slice a0 L0.length q0) (.int .i16 y1) (.int .i16 z1) 25 27).2
    have hlt : ¬ ((1048576 : Int) - (weight L0 : Int) < 0) := by omega
    clear hA0 hc0 hm0 hz0 hn0 hsz0 hw hx1
    generalize weight L0 = wt at *
    go_enter Tryd.func3, Tryd.ntmps3
    go_wp2_with fail
    refine (HSZ.out _ (HA.out.below X0.out.2.2.1)).mono ?_
    rintro e w1 ⟨rfl, hB⟩
    have X1 := Lib.hid (hb2_id (hb2_next X0.out hB))
    have Z1 := Lib.hid (hb2_id (hb2_next Z0.out hB))
    clear hB X0 Z0 HSZ
    obtain ⟨p0, p1, _, _⟩ := X1.out
    obtain ⟨l0, l1, _, _⟩ := Z1.out
    go_wp2_with fail
    go_region_held3 (fun w' => w'.cell? ⟨w.heap.size, 0, none⟩ = some (.int .i16 c0) ∧ w'.cell? ⟨w.heap.size, 1, none⟩ = some (.slice a0 L0.length q0) ∧ w'.cell? ⟨w.heap.size + 1, 0, none⟩ = some (.int .i16 y1) ∧ w'.cell? ⟨w.heap.size + 1, 1, none⟩ = some (.int .i16 z1) ∧ Below w.heap.size w w' ∧ Below w1.heap.size w1 w' ∧ w.heap.size < w'.heap.size ∧ w.heap.size + 1 < w'.heap.size)
      (first | assumption | exact hb4v_start X1.out Z1.out | (refine hb4v_next ?_ hB7; assumption) | (refine hb4v_next ?_ hB8; assumption) | (refine hb4v_next ?_ hB9; assumption))
      (first | (go_at_call 8; refine (HTo.out _ (hb4v_below (w := w) (V := w1) (b := w.heap.size) (d := w.heap.size + 1) (by assumption)).1).mono ?_; rintro e w7 ⟨u3, rfl, own3, hB7⟩) | (go_at_call 9; refine (HLo.out _).mono ?_; rintro e w8 ⟨rfl, hB8⟩) | (go_at_call 7; refine (cS.out _ _ (by first | exact own3.strs | exact own3.strs.below hB8)).mono ?_; rintro e w9 ⟨rfl, hB9⟩) | fail)
    all_goals
      have HE := hb4v_get (w := w) (V := w1) (b := w.heap.size) (d := w.heap.size + 1) (W := w9) (by assumption)
      have X3 := Lib.hid HE.1
      have Z3 := Lib.hid HE.2.1
      clear HE
      clear X1 Z1 p0 p1 l0 l1 own3 hB7 hB8 hB9 cS
      obtain ⟨p0, p1, _, _⟩ := X3.out
      obtain ⟨l0, l1, _, _⟩ := Z3.out
      go_wp2_with fail
      refine (HTo.out _ X3.out.2.2.1).mono ?_
      rintro e w4 ⟨u, rfl, own, hB⟩
      obtain ⟨ua, uq, rfl⟩ := own.strs.len
      have X4 := Lib.hid (hb2_id (hb2_next X3.out hB))
      have Z4 := Lib.hid (hb2_id (hb2_next Z3.out hB))
      have A4 : Below w4.heap.size w4 (w4.alloc (.cells #[.int .i16 c0, .slice ua L0.length uq] 31)) := (Below.refl _ _).alloc (Nat.le_refl _) _
      have X5 := Lib.hid (hb2_id (hb2_next X4.out A4))
      have Z5 := Lib.hid (hb2_id (hb2_next Z4.out A4))
      have Y5 := Lib.hid (hb2_at (x := .int .i16 c0) (y := .slice ua L0.length uq) X4.out.2.2.1 31)
      have U5 := Lib.hid (own.below A4)
      clear p0 p1 l0 l1 hB own X3 Z3 X4 Z4 A4
      obtain ⟨p0, p1, _, _⟩ := X5.out
      obtain ⟨l0, l1, _, _⟩ := Z5.out
      obtain ⟨y0, y1', _, _⟩ := Y5.out
      go_wp2_with fail
      generalize w4.alloc (.cells #[.int .i16 c0, .slice ua L0.length uq] 31) = w5 at *
      generalize w4.heap.size = yb at *
      go_region_held3 (fun w' => w'.cell? ⟨w.heap.size, 0, none⟩ = some (.int .i16 c0) ∧ w'.cell? ⟨w.heap.size, 1, none⟩ = some (.slice a0 L0.length q0) ∧ w'.cell? ⟨w.heap.size + 1, 0, none⟩ = some (.int .i16 y1) ∧ w'.cell? ⟨w.heap.size + 1, 1, none⟩ = some (.int .i16 z1) ∧ w'.cell? ⟨yb, 0, none⟩ = some (.int .i16 c0) ∧ w'.cell? ⟨yb, 1, none⟩ = some (.slice ua L0.length uq) ∧ Below w.heap.size w w' ∧ Below w5.heap.size w5 w' ∧ w.heap.size < w'.heap.size ∧ w.heap.size + 1 < w'.heap.size ∧ yb < w'.heap.size)
        (first | assumption | exact hb6_start X5.out Z5.out Y5.out | (refine hb6_next ?_ hB7; assumption) | (refine hb6_next ?_ hB8; assumption))
        (first | (go_at_call 9; refine (HLo.out _).mono ?_; rintro e w7 ⟨rfl, hB7⟩) | (go_at_call 10; refine (cI.out _ _ (HS.out.below (hb6_get (w := w) (V := w5) (b := w.heap.size) (d := w.heap.size + 1) (g := yb) (by assumption)).2.2.2.2) (U5.out.strs.below (hb6_get (w := w) (V := w5) (b := w.heap.size) (d := w.heap.size + 1) (g := yb) (by assumption)).2.2.2.1)).mono ?_; rintro e w6 ⟨rfl, hB8⟩) | fail)
      all_goals
        have HE := hb6_get (w := w) (V := w5) (b := w.heap.size) (d := w.heap.size + 1) (g := yb) (W := w6) (by assumption)
        have X6 := Lib.hid HE.1
        have Z6 := Lib.hid HE.2.1
        have Y6 := Lib.hid HE.2.2.1
        have U6 := Lib.hid (U5.out.below HE.2.2.2.1)
        clear HE p0 p1 l0 l1 y0 y1' X5 Z5 Y5 hB7 hB8
        obtain ⟨p0, p1, _, _⟩ := X6.out
        obtain ⟨y0, y1', _, _⟩ := Y6.out
        have UD := Lib.hid ((U6.out.strs).below (Below.refl w6.heap.size w6).drew)
        go_wp2_with fail
        go_region_held3 (fun w' => w'.cell? ⟨w.heap.size, 0, none⟩ = some (.int .i16 c0) ∧ w'.cell? ⟨w.heap.size, 1, none⟩ = some (.slice a0 L0.length q0) ∧ w'.cell? ⟨yb, 0, none⟩ = some (.int .i16 c0) ∧ w'.cell? ⟨yb, 1, none⟩ = some (.slice ua L0.length uq) ∧ Below w.heap.size w w' ∧ w.heap.size < w'.heap.size ∧ yb < w'.heap.size)
          (first | assumption | exact hb4_start X6.out Y6.out | (refine hb4_next ?_ hB7; assumption) | (refine hb4_next ?_ hB8; assumption))
          (first | (go_at_call 8; refine (HTo.out _ (hb4_below (w := w) (b := w.heap.size) (d := yb) (by assumption))).mono ?_; rintro e wa ⟨u4, rfl, own4, hB7⟩) | (go_at_call 11; refine (HEq.out _ _ _ (UD.out.below hB7) own4.strs).mono ?_; rintro e wb ⟨rfl, hB8⟩) | fail)
        all_goals
          have HE := Lib.hid (hb4_below (w := w) (b := w.heap.size) (d := yb) (W := wb) (by assumption))
          go_wp2
          go_ret
          exact ⟨rfl, HE.out⟩
  · have HSZ := Lib.hid fun wx hx => szFabric_no c0 s0 L0 1048576 wx hx (by omega) (by omega) hm0 hz0 (by omega)
    have HA := Lib.hid hA0
    obtain ⟨a0, q0, rfl⟩ := hA0.len
    have X0 := Lib.hid (hb_two w (.int .i16 c0) (.slice a0 L0.length q0) (.int .i16 y1) (.int .i16 z1) 25 27).1
    clear hA0 hc0 hm0 hz0 hw
    go_enter Tryd.func3, Tryd.ntmps3
    go_wp2_with fail
    refine (HSZ.out _ (HA.out.below X0.out.2.2.1)).mono ?_
    rintro e w1 ⟨rfl, hB⟩
    have X1 := Lib.hid (hb2_id (hb2_next X0.out hB))
    clear hB X0
    go_wp2
    go_ret
    exact ⟨rfl, X1.out.2.2.1⟩
end Go.Proofs.YtcdjabhdbobghaaDoor
