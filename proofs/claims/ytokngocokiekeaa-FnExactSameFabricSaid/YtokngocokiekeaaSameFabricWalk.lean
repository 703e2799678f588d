/-
  Proved here: the law on SameFabric answers true, for all arguments; condition: none.
-/
import Derived.Test.YtokngocokiekeaaSameF
import Derived.Test.YtokngocokiekeaaFabP
import Derived.Deep.AppendLies
namespace Go.Proofs.Ytokngocokiekeaa
open Go.ChangeShapes Go.WideShapes Go.ChangeAt Go.RowKit

theorem g5_start {w W : World} {b d : Nat} {x y z u : Value} (h : Hb2 w W b x y) (k : Hb2 w W d z u) :
    W.drew.cell? ⟨b, 0, none⟩ = some x ∧ W.drew.cell? ⟨b, 1, none⟩ = some y ∧ W.drew.cell? ⟨d, 0, none⟩ = some z ∧ W.drew.cell? ⟨d, 1, none⟩ = some u ∧ Below w.heap.size w W.drew ∧ Below W.heap.size W W.drew ∧ b < W.drew.heap.size ∧ d < W.drew.heap.size :=
  ⟨h.1, h.2.1, k.1, k.2.1, h.2.2.1.drew, (Below.refl _ _).drew, h.2.2.2, k.2.2.2⟩
theorem g5_next {w x W w' : World} {b d : Nat} {v y z u : Value} (h : W.cell? ⟨b, 0, none⟩ = some v ∧ W.cell? ⟨b, 1, none⟩ = some y ∧ W.cell? ⟨d, 0, none⟩ = some z ∧ W.cell? ⟨d, 1, none⟩ = some u ∧ Below w.heap.size w W ∧ Below x.heap.size x W ∧ b < W.heap.size ∧ d < W.heap.size) (hB : Below W.heap.size W w') :
    w'.cell? ⟨b, 0, none⟩ = some v ∧ w'.cell? ⟨b, 1, none⟩ = some y ∧ w'.cell? ⟨d, 0, none⟩ = some z ∧ w'.cell? ⟨d, 1, none⟩ = some u ∧ Below w.heap.size w w' ∧ Below x.heap.size x w' ∧ b < w'.heap.size ∧ d < w'.heap.size := by
  obtain ⟨h0, h1, h2, h3, h4, h7, h5, h6⟩ := h
  exact ⟨kept hB h5 h0, kept hB h5 h1, kept hB h6 h2, kept hB h6 h3, h4.trans (hB.mono h4.size), h7.trans (hB.mono h7.size), Nat.lt_of_lt_of_le h5 hB.size, Nat.lt_of_lt_of_le h6 hB.size⟩
theorem g5_below {w x W : World} {b d : Nat} {v y z u : Value} (h : W.cell? ⟨b, 0, none⟩ = some v ∧ W.cell? ⟨b, 1, none⟩ = some y ∧ W.cell? ⟨d, 0, none⟩ = some z ∧ W.cell? ⟨d, 1, none⟩ = some u ∧ Below w.heap.size w W ∧ Below x.heap.size x W ∧ b < W.heap.size ∧ d < W.heap.size) : Below w.heap.size w W := h.2.2.2.2.1
theorem g5_get {w x W : World} {b d : Nat} {v y z u : Value} (h : W.cell? ⟨b, 0, none⟩ = some v ∧ W.cell? ⟨b, 1, none⟩ = some y ∧ W.cell? ⟨d, 0, none⟩ = some z ∧ W.cell? ⟨d, 1, none⟩ = some u ∧ Below w.heap.size w W ∧ Below x.heap.size x W ∧ b < W.heap.size ∧ d < W.heap.size) : Hb2 w W b v y ∧ Hb2 w W d z u ∧ Below x.heap.size x W :=
  ⟨⟨h.1, h.2.1, h.2.2.2.2.1, h.2.2.2.2.2.2.1⟩, ⟨h.2.2.1, h.2.2.2.1, h.2.2.2.2.1, h.2.2.2.2.2.2.2⟩, h.2.2.2.2.2.1⟩

set_option linter.unusedVariables false in
set_option maxRecDepth 100000 in
set_option maxHeartbeats 16000000 in
theorem sameFabric_walk {H : Type} {enc : TypeId × Value → H} (w : World) (base : Nat)
    (v0 : Value) (d0 : DataW H) (p0 : List MemPlace) (o0 : Value.okWide Try.prog w .any base 25 v0) (k0 : DataW.Trod enc Try.prog w 0 (fun _ => true) true 25 v0 d0 p0)
    (v1 : Value) (d1 : DataW H) (p1 : List MemPlace) (o1 : Value.okWide Try.prog w .any base 25 v1) (k1 : DataW.Trod enc Try.prog w 0 (fun _ => true) true 25 v1 d1 p1)
    :
    Calls Try.prog 3 #[v0, v1] w fun e w' => e = .returned (.bool true) ∧ Below w.heap.size w w' := by
  obtain ⟨c0, s0, L0, rfl, hc0, hA0, hm0, hz0⟩ := open_fabric o0 k0
  clear o0 k0
  obtain ⟨a0, q0, rfl⟩ := hA0.len
  obtain ⟨c1, s1, L1, rfl, hc1, hA1, hm1, hz1⟩ := open_fabric o1 k1
  clear o1 k1
  obtain ⟨a1, q1, rfl⟩ := hA1.len
  have HA := Lib.hid hA0
  have HB := Lib.hid hA1
  have A1 : Below (w.alloc (.cells #[.int .i16 c0, .slice a0 L0.length q0] 25)).heap.size (w.alloc (.cells #[.int .i16 c0, .slice a0 L0.length q0] 25)) ((w.alloc (.cells #[.int .i16 c0, .slice a0 L0.length q0] 25)).alloc (.cells #[.int .i16 c1, .slice a1 L1.length q1] 25)) := (Below.refl _ _).alloc (Nat.le_refl _) _
  have X0 := Lib.hid (hb2_id (hb2_next (hb2_made w (.int .i16 c0) (.slice a0 L0.length q0) 25) A1))
  have Y0 : Hid (Hb2 w ((w.alloc (.cells #[.int .i16 c0, .slice a0 L0.length q0] 25)).alloc (.cells #[.int .i16 c1, .slice a1 L1.length q1] 25)) (w.heap.size + 1) (.int .i16 c1) (.slice a1 L1.length q1)) := ⟨by simp [go_sem], by simp [go_sem], X0.out.2.2.1, by simp⟩
  clear A1
  by_cases hw0 : weight L0 ≤ 1048576
  · have HZ0 := Lib.hid fun wx hx => szFabric_yes c0 (.slice a0 L0.length q0) L0 1048576 wx hx (by omega) (by omega) hm0 hz0 (by omega)
    have hlt0 : ¬ ((1048576 : Int) - (weight L0 : Int) < 0) := by omega
    by_cases hw1 : weight L0 + weight L1 ≤ 1048576
    · have hn0 : L0.length ≤ 1048576 := by unfold weight at hw0; omega
      have hn1 : L1.length ≤ 1048576 := by unfold weight at hw1; omega
      have HZ1 := Lib.hid fun wx hx => szFabric_yes c1 (.slice a1 L1.length q1) L1 ((1048576 : Int) - (weight L0 : Int)) wx hx (by omega) (by omega) hm1 hz1 (by omega)
      have hlt1 : ¬ ((1048576 : Int) - (weight L0 : Int) - (weight L1 : Int) < 0) := by omega
      have cS := Lib.hid fun u v wx (g : Strs wx u L0) (h : Strs wx v L1) => specSame_any c0 u L0 c1 v L1 wx g hn0 h hn1
      have cI := Lib.hid fun u v wx (g : Strs wx u L0) (h : Strs wx v L1) => implSame_any c0 u L0 c1 v L1 wx g hn0 h hn1
      obtain ⟨C0, hC0⟩ : ∃ F, (sameF c0 L0 c1 L1) = F := ⟨_, rfl⟩
      rw [hC0] at cS cI
      clear hC0
      have hne0 : (C0 != C0) = false := by simp
      have HT0 := Lib.hid fun wx (hB : Below w.heap.size w wx) => toFabric_any c0 _ L0 wx (HA.out.below hB) hn0
      have HT1 := Lib.hid fun wx (hB : Below w.heap.size w wx) => toFabric_any c1 _ L1 wx (HB.out.below hB) hn1
      have HE0 := Lib.hid fun a b wx ha hb => eqFabric_self c0 a b L0 wx ha hb (by omega)
      have HE1 := Lib.hid fun a b wx ha hb => eqFabric_self c1 a b L1 wx ha hb (by omega)
      have hwt0 : (weight L0 : Int) ≤ 1048576 := by omega
      have hwt1 : (weight L1 : Int) ≤ 1048576 := by omega
      clear hA0 hA1 hc0 hm0 hz0 hc1 hm1 hz1 hn0 hn1 hw0 hw1
      generalize weight L0 = wt0 at *
      generalize weight L1 = wt1 at *
      go_enter Try.func3, Try.ntmps3
      go_wp2_with fail
      refine (HZ0.out _ (HA.out.below X0.out.2.2.1)).mono ?_
      rintro e w1 ⟨rfl, hB⟩
      have X1 := Lib.hid (hb2_id (hb2_next X0.out hB))
      have Y1 := Lib.hid (hb2_id (hb2_next Y0.out hB))
      clear hB X0 Y0 HZ0
      obtain ⟨p0, p1, _, _⟩ := X1.out
      obtain ⟨r0, r1, _, _⟩ := Y1.out
      go_wp2_with fail
      refine (HZ1.out _ (HB.out.below Y1.out.2.2.1)).mono ?_
      rintro e w2 ⟨rfl, hB⟩
      have X2 := Lib.hid (hb2_id (hb2_next X1.out hB))
      have Y2 := Lib.hid (hb2_id (hb2_next Y1.out hB))
      clear hB X1 Y1 HZ1 p0 p1 r0 r1
      obtain ⟨p0, p1, _, _⟩ := X2.out
      obtain ⟨r0, r1, _, _⟩ := Y2.out
      go_wp2_with fail
      go_region_held3 (fun w' => w'.cell? ⟨w.heap.size, 0, none⟩ = some (.int .i16 c0) ∧ w'.cell? ⟨w.heap.size, 1, none⟩ = some (.slice a0 L0.length q0) ∧ w'.cell? ⟨w.heap.size + 1, 0, none⟩ = some (.int .i16 c1) ∧ w'.cell? ⟨w.heap.size + 1, 1, none⟩ = some (.slice a1 L1.length q1) ∧ Below w.heap.size w w' ∧ Below w2.heap.size w2 w' ∧ w.heap.size < w'.heap.size ∧ w.heap.size + 1 < w'.heap.size)
        (first | assumption | exact g5_start X2.out Y2.out | (refine g5_next ?_ hBA; assumption) | (refine g5_next ?_ hBB; assumption) | (refine g5_next ?_ hBS; assumption))
        (first | (go_at_call 6; first | (with_reducible refine (HT0.out _ (g5_below (w := w) (x := w2) (b := w.heap.size) (d := w.heap.size + 1) (by assumption))).mono ?_; rintro e wA ⟨uA, rfl, ownA, hBA⟩) | (with_reducible refine (HT1.out _ (g5_below (w := w) (x := w2) (b := w.heap.size) (d := w.heap.size + 1) (by assumption))).mono ?_; rintro e wB ⟨uB, rfl, ownB, hBB⟩)) | (go_at_call 5; first | (refine (cS.out _ _ _ (ownA.below hBB).strs ownB.strs).mono ?_; rintro e wS ⟨rfl, hBS⟩) | (refine (cS.out _ _ _ ownA.strs (ownB.below hBA).strs).mono ?_; rintro e wS ⟨rfl, hBS⟩)) | fail)
      all_goals
        have HE := g5_get (w := w) (x := w2) (b := w.heap.size) (d := w.heap.size + 1) (by assumption)
        have X3 := Lib.hid HE.1
        have Y3 := Lib.hid HE.2.1
        clear HE X2 Y2 p0 p1 r0 r1 ownA ownB hBA hBB hBS
        obtain ⟨p0, p1, _, _⟩ := X3.out
        go_wp2_with fail
        refine (HT0.out _ X3.out.2.2.1).mono ?_
        rintro e w4 ⟨u, rfl, own, hB⟩
        obtain ⟨ua, uq, rfl⟩ := own.strs.len
        have X4 := Lib.hid (hb2_id (hb2_next X3.out hB))
        have Y4 := Lib.hid (hb2_id (hb2_next Y3.out hB))
        have A4 : Below w4.heap.size w4 (w4.alloc (.cells #[.int .i16 c0, .slice ua L0.length uq] 28)) := (Below.refl _ _).alloc (Nat.le_refl _) _
        have X5 := Lib.hid (hb2_id (hb2_next X4.out A4))
        have Y5 := Lib.hid (hb2_id (hb2_next Y4.out A4))
        have M5 := Lib.hid (hb2_at (x := .int .i16 c0) (y := .slice ua L0.length uq) X4.out.2.2.1 28)
        have U5 := Lib.hid (own.strs.below A4)
        clear p0 p1 hB own X3 Y3 X4 Y4 A4
        obtain ⟨p0, p1, _, _⟩ := Y5.out
        go_wp2_with fail
        generalize w4.alloc (.cells #[.int .i16 c0, .slice ua L0.length uq] 28) = w5 at *
        generalize w4.heap.size = yb at *
        refine (HT1.out _ Y5.out.2.2.1).mono ?_
        rintro e w6 ⟨u, rfl, own, hB⟩
        obtain ⟨va, vq, rfl⟩ := own.strs.len
        have X6 := Lib.hid (hb2_id (hb2_next X5.out hB))
        have Y6 := Lib.hid (hb2_id (hb2_next Y5.out hB))
        have M6 := Lib.hid (hb2_id (hb2_next M5.out hB))
        have U6 := Lib.hid (U5.out.below hB)
        have A6 : Below w6.heap.size w6 (w6.alloc (.cells #[.int .i16 c1, .slice va L1.length vq] 28)) := (Below.refl _ _).alloc (Nat.le_refl _) _
        have X7 := Lib.hid (hb2_id (hb2_next X6.out A6))
        have Y7 := Lib.hid (hb2_id (hb2_next Y6.out A6))
        have M7 := Lib.hid (hb2_id (hb2_next M6.out A6))
        have N7 := Lib.hid (hb2_at (x := .int .i16 c1) (y := .slice va L1.length vq) Y6.out.2.2.1 28)
        have U7 := Lib.hid (U6.out.below A6)
        have V7 := Lib.hid (own.strs.below A6)
        clear p0 p1 hB own X5 Y5 M5 U5 X6 Y6 M6 U6 A6
        obtain ⟨p0, p1, _, _⟩ := M7.out
        go_wp2_with fail
        generalize w6.alloc (.cells #[.int .i16 c1, .slice va L1.length vq] 28) = w7 at *
        generalize w6.heap.size = zb at *
        refine (cI.out _ _ _ U7.out V7.out).mono ?_
        rintro e w8 ⟨rfl, hB⟩
        have X8 := Lib.hid (hb2_id (hb2_next X7.out hB))
        have Y8 := Lib.hid (hb2_id (hb2_next Y7.out hB))
        have M8 := Lib.hid (hb2_id (hb2_next M7.out hB))
        have N8 := Lib.hid (hb2_id (hb2_next N7.out hB))
        have U8 := Lib.hid ((U7.out.below hB).below (Below.refl w8.heap.size w8).drew)
        have V8 := Lib.hid (V7.out.below hB)
        clear p0 p1 hB X7 Y7 M7 N7 U7 V7
        obtain ⟨p0, p1, _, _⟩ := X8.out
        obtain ⟨r0, r1, _, _⟩ := M8.out
        go_wp2_with fail
        go_region_held3 (fun w' => w'.cell? ⟨w.heap.size, 0, none⟩ = some (.int .i16 c0) ∧ w'.cell? ⟨w.heap.size, 1, none⟩ = some (.slice a0 L0.length q0) ∧ w'.cell? ⟨yb, 0, none⟩ = some (.int .i16 c0) ∧ w'.cell? ⟨yb, 1, none⟩ = some (.slice ua L0.length uq) ∧ Below w.heap.size w w' ∧ Below w8.heap.size w8 w' ∧ w.heap.size < w'.heap.size ∧ yb < w'.heap.size)
          (first | assumption | exact g5_start X8.out M8.out | (refine g5_next ?_ hB7; assumption) | (refine g5_next ?_ hB8; assumption))
          (first | (go_at_call 6; refine (HT0.out _ (g5_below (w := w) (x := w8) (b := w.heap.size) (d := yb) (by assumption))).mono ?_; rintro e wC ⟨u3, rfl, own3, hB7⟩) | (go_at_call 8; refine (HE0.out _ _ _ (U8.out.below hB7) own3.strs).mono ?_; rintro e wD ⟨rfl, hB8⟩) | fail)
        have HE := g5_get (w := w) (x := w8) (b := w.heap.size) (d := yb) (by assumption)
        have Y9 := Lib.hid (hb2_id (hb2_next Y8.out HE.2.2))
        have N9 := Lib.hid (hb2_id (hb2_next N8.out HE.2.2))
        have V9 := Lib.hid (V8.out.below HE.2.2)
        clear HE X8 Y8 M8 N8 U8 V8 p0 p1 r0 r1 own3 hB7
        generalize wD = w9 at *
        have VD := Lib.hid (V9.out.below (Below.refl w9.heap.size w9).drew)
        obtain ⟨p0, p1, _, _⟩ := Y9.out
        obtain ⟨r0, r1, _, _⟩ := N9.out
        clear hB8
        go_wp2_with fail
        go_region_held3 (fun w' => w'.cell? ⟨w.heap.size + 1, 0, none⟩ = some (.int .i16 c1) ∧ w'.cell? ⟨w.heap.size + 1, 1, none⟩ = some (.slice a1 L1.length q1) ∧ w'.cell? ⟨zb, 0, none⟩ = some (.int .i16 c1) ∧ w'.cell? ⟨zb, 1, none⟩ = some (.slice va L1.length vq) ∧ Below w.heap.size w w' ∧ Below w9.heap.size w9 w' ∧ w.heap.size + 1 < w'.heap.size ∧ zb < w'.heap.size)
          (first | assumption | exact g5_start Y9.out N9.out | (refine g5_next ?_ hB7; assumption) | (refine g5_next ?_ hB8; assumption))
          (first | (go_at_call 6; refine (HT1.out _ (g5_below (w := w) (x := w9) (b := w.heap.size + 1) (d := zb) (by assumption))).mono ?_; rintro e wC ⟨u3, rfl, own3, hB7⟩) | (go_at_call 8; refine (HE1.out _ _ _ (VD.out.below hB7) own3.strs).mono ?_; rintro e wE ⟨rfl, hB8⟩) | fail)
        have HE := Lib.hid (g5_below (w := w) (x := w9) (b := w.heap.size + 1) (d := zb) (by assumption))
        go_wp2
        go_ret
        exact ⟨rfl, HE.out⟩
    · have HZ1 := Lib.hid fun wx hx => szFabric_no c1 (.slice a1 L1.length q1) L1 ((1048576 : Int) - (weight L0 : Int)) wx hx (by omega) (by omega) hm1 hz1 (by omega)
      clear hA0 hA1 hc0 hm0 hz0 hc1 hm1 hz1 hw0 hw1
      generalize weight L0 = wt0 at *
      go_enter Try.func3, Try.ntmps3
      go_wp2_with fail
      refine (HZ0.out _ (HA.out.below X0.out.2.2.1)).mono ?_
      rintro e w1 ⟨rfl, hB⟩
      have X1 := Lib.hid (hb2_id (hb2_next X0.out hB))
      have Y1 := Lib.hid (hb2_id (hb2_next Y0.out hB))
      clear hB X0 Y0 HZ0
      obtain ⟨p0, p1, _, _⟩ := X1.out
      obtain ⟨r0, r1, _, _⟩ := Y1.out
      go_wp2_with fail
      refine (HZ1.out _ (HB.out.below Y1.out.2.2.1)).mono ?_
      rintro e w2 ⟨rfl, hB⟩
      have X2 := Lib.hid (hb2_id (hb2_next X1.out hB))
      have Y2 := Lib.hid (hb2_id (hb2_next Y1.out hB))
      clear hB X1 Y1 HZ1 p0 p1 r0 r1
      go_wp2
      go_ret
      exact ⟨rfl, X2.out.2.2.1⟩
  · have HZ0 := Lib.hid fun wx hx => szFabric_no c0 (.slice a0 L0.length q0) L0 1048576 wx hx (by omega) (by omega) hm0 hz0 (by omega)
    clear hA0 hA1 hc0 hm0 hz0 hc1 hm1 hz1 hw0
    go_enter Try.func3, Try.ntmps3
    go_wp2_with fail
    refine (HZ0.out _ (HA.out.below X0.out.2.2.1)).mono ?_
    rintro e w1 ⟨rfl, hB⟩
    have X1 := Lib.hid (hb2_id (hb2_next X0.out hB))
    have Y1 := Lib.hid (hb2_id (hb2_next Y0.out hB))
    clear hB X0 Y0 HZ0
    go_wp2
    go_ret
    exact ⟨rfl, X1.out.2.2.1⟩
end Go.Proofs.Ytokngocokiekeaa
