/-
  No statement is proved here: a yarn that is cut, as the document's own text tells it; condition: the numbers are int16s.
-/
import Derived.Test.YtpkjogenkdckpaaDoorCutY
import Derived.Deep.RegionWith
import Derived.Deep.DeepCutAuto
namespace Go.Proofs.YtpkjogenkdckpaaDoor
open Go.ChangeShapes Go.WideShapes Go.ChangeAt Go.RowKit

set_option maxRecDepth 100000 in
set_option maxHeartbeats 40000000 in
theorem specCut_yes (a b c l : Int) (w : World) (h16 : Is16 (a, b, c)) (hok : okY (a, b, c) = true) (hin : inB l 1 (a - 1) = true) (hk1 : okR l (cutT a b l) (cutG a c l) = true) (hk2 : okR (a - l) (b - cutT a b l) (c - cutG a c l) = true) :
    Calls Tryd.prog 15 #[.agg #[.int .i16 a, .int .i16 b, .int .i16 c], .int .i64 l] w fun e w' => e = .returned (.tuple #[.agg #[.int .i16 (cutF a b c l).1.1, .int .i16 (cutF a b c l).1.2.1, .int .i16 (cutF a b c l).1.2.2], .agg #[.int .i16 (cutF a b c l).2.1.1, .int .i16 (cutF a b c l).2.1.2.1, .int .i16 (cutF a b c l).2.1.2.2], .int .i64 (cutF a b c l).2.2]) ∧ Below w.heap.size w w' := by
  have HV := Lib.hid fun wx => l03Yarn_any a b c wx h16
  have HI := Lib.hid fun wx => in_any l 1 (a - 1) wx
  have J0 := Lib.hid (cutF_0 (a := a) (b := b) (c := c) (l := l))
  have BD := Lib.hid (cut_bd (a := a) (b := b) (c := c) (l := l))
  have hw : wrap64 (a - 1) = a - 1 := (IntWalk.wrap64_in (a - 1) (by have := h16.1; simp only at this; omega)).trans (by omega)
  generalize cutF a b c l = out at *
  rw [hok] at HV
  rw [hin] at HI
  obtain ⟨⟨k1, k2⟩, ⟨k3, k4⟩, k5, k6⟩ := okY_of hok
  have hw2 : IntKind.i64.wrap (a - 1) = a - 1 := (IntWalk.i64_in (a - 1) (by omega)).trans (by omega)
  obtain ⟨⟨n1, n2⟩, ⟨n3, n4⟩, ⟨n5, n6⟩, ⟨n7, n8⟩, hq⟩ := BD.out hok hin
  obtain ⟨l1, l2⟩ := inB_of hin
  have HF := Lib.hid fun wx => l03Down_any (b * l) a wx (by omega) (by omega)
  rw [show b * l / a = cutT a b l from rfl] at HF
  have KF := Lib.hid fun h => J0.out hok hin h
  have u1 : ∀ [Inhabited Nat], IntKind.i64.wrap (b * l) = b * l := by intro _; exact (IntWalk.i64_in _ (by omega)).trans (by omega)
  have u2 : ∀ [Inhabited Nat], wrap64 (b * l) = b * l := by intro _; exact (IntWalk.wrap64_in _ (by omega)).trans (by omega)
  have u3 : ∀ [Inhabited Nat], IntKind.i64.wrap (c * l) = c * l := by intro _; exact (IntWalk.i64_in _ (by omega)).trans (by omega)
  have u4 : ∀ [Inhabited Nat], wrap64 (c * l) = c * l := by intro _; exact (IntWalk.wrap64_in _ (by omega)).trans (by omega)
  have u5 : ∀ [Inhabited Nat], IntKind.i64.wrap ((c * l).tdiv a) = cutG a c l := by intro _; rw [hq]; exact (IntWalk.i64_in _ (by omega)).trans (by omega)
  have u6 : ∀ [Inhabited Nat], wrap64 ((c * l).tdiv a) = cutG a c l := by intro _; rw [hq]; exact (IntWalk.wrap64_in _ (by omega)).trans (by omega)
  have u7 : (a == 0) = false := by rw [beq_eq_false_iff_ne]; omega
  have hcd : cutOk a b c l = (okR l (cutT a b l) (cutG a c l) && okR (a - l) (b - cutT a b l) (c - cutG a c l)) := rfl
  generalize cutT a b l = T at *
  generalize cutG a c l = G at *
  have HM1 := Lib.hid fun wx => l03Make_any l T G wx
  have HM2 := Lib.hid fun wx => l03Make_any (a - l) (b - T) (c - G) wx
  have HCD := Lib.hid hcd
  clear J0 BD hq hcd
  rw [mkY_yes hk1, hk1] at HM1
  have JO := Lib.hid (KF.out (by rw [HCD.out, hk1, hk2]; rfl))
  rw [mkY_yes hk2, hk2] at HM2
  clear hok hin hk1 hk2 h16
  go_enter Tryd.func15, Tryd.ntmps15
  go_wp2_with fail
  refine (HV.out _).mono ?_
  rintro e w1 ⟨rfl, hB⟩
  have YB1 := Lib.hid (show YBox w1 w.heap.size a b c from YBox.below (w := ((w.alloc _).alloc _).alloc _) ⟨by simp [go_sem], by simp [go_sem], by simp [go_sem]⟩ hB (by simp only [World.size_alloc]; omega))
  have Q1_1 := Lib.hid (show YFree w1 (w.heap.size + 1) 0 0 0 from YFree.below (w := ((w.alloc _).alloc _).alloc _) ⟨⟨by simp [go_sem], by simp [go_sem], by simp [go_sem]⟩, by simp [go_sem], by simp [go_sem], by simp [go_sem]⟩ hB (by simp only [World.size_alloc]; omega))
  have Q2_1 := Lib.hid (show YFree w1 (w.heap.size + 1 + 1) 0 0 0 from YFree.below (w := ((w.alloc _).alloc _).alloc _) ⟨⟨by simp [go_sem], by simp [go_sem], by simp [go_sem]⟩, by simp [go_sem], by simp [go_sem], by simp [go_sem]⟩ hB (by simp only [World.size_alloc]; omega))
  have D1 := Lib.hid (((((Below.refl w.heap.size w).alloc (Nat.le_refl _) _).alloc (by simp only [World.size_alloc]; omega) _).alloc (by simp only [World.size_alloc]; omega) _).trans (hB.mono (by simp only [World.size_alloc]; omega)))
  have Y1 := Lib.hid (show w.heap.size + 2 < w1.heap.size by have hz := hB.size; simp only [World.size_alloc] at hz; omega)
  clear hB HV
  obtain ⟨y0, y1, y2⟩ := YB1.out
  go_wp2_with fail
  refine (HI.out _).mono ?_
  rintro e w' ⟨rfl, rfl⟩
  go_wp2_with fail
  refine (HF.out _).mono ?_
  rintro e w' ⟨rfl, rfl⟩
  go_wp2_with fail
  refine (HM1.out _).mono ?_
  rintro e w2 ⟨rfl, hL⟩
  have YB2 := Lib.hid (YB1.out.below hL (by have := Y1.out; omega))
  have Q1_2 := Lib.hid (Q1_1.out.below hL (by have := Y1.out; omega))
  have Q2_2 := Lib.hid (Q2_1.out.below hL (by have := Y1.out; omega))
  have D2 := Lib.hid (D1.out.trans (hL.mono D1.out.size))
  have Y2 := Lib.hid (show w.heap.size + 2 < w2.heap.size by have := Y1.out; have := hL.size; omega)
  clear y0 y1 y2 hL
  obtain ⟨y0, y1, y2⟩ := YB2.out
  have yz : w.heap.size < w2.heap.size := by have := Y2.out; omega
  go_wp2_with fail
  refine (HM2.out _).mono ?_
  rintro e w3 ⟨rfl, hB⟩
  have hL : Below w2.heap.size w2 w3 := ((Below.refl _ _).alloc (Nat.le_refl _) _).trans (hB.mono (by simp only [World.size_alloc]; omega))
  have Q1_3 := Lib.hid (Q1_2.out.below hL (by have := Y2.out; omega))
  have Q2_3 := Lib.hid (Q2_2.out.below hL (by have := Y2.out; omega))
  have D3 := Lib.hid (D2.out.trans (hL.mono D2.out.size))
  have Y3 := Lib.hid (show w.heap.size + 2 < w3.heap.size by have := Y2.out; have := hL.size; omega)
  have hA : YBox w3 w2.heap.size l T G := YBox.below (w := w2.alloc _) ⟨by simp [go_sem], by simp [go_sem], by simp [go_sem]⟩ hB (by simp only [World.size_alloc]; omega)
  have za : w2.heap.size < w3.heap.size := by have hz := hB.size; simp only [World.size_alloc] at hz; omega
  obtain ⟨m0, m1, m2⟩ := hA
  clear y0 y1 y2 hL hB yz u1 u2 u3 u4 u5 u6 u7 hw hw2 n1 n2 n3 n4
  go_upto_region 10 with fail
  obtain ⟨w4, hw4⟩ : ∃ w4, w4 = w3.alloc (.cells #[.int .i16 (a - l), .int .i16 (b - T), .int .i16 (c - G)] 25) := ⟨_, rfl⟩
  have hL4 : Below w3.heap.size w3 w4 := by rw [hw4]; exact (Below.refl _ _).alloc (Nat.le_refl _) _
  have Q1_4 := Lib.hid (Q1_3.out.below hL4 (by have := Y3.out; omega))
  have Q2_4 := Lib.hid (Q2_3.out.below hL4 (by have := Y3.out; omega))
  have D4 := Lib.hid (D3.out.trans (hL4.mono D3.out.size))
  obtain ⟨m3, m4, m5⟩ : YBox w4 w3.heap.size (a - l) (b - T) (c - G) := by rw [hw4]; exact ⟨by simp [go_sem], by simp [go_sem], by simp [go_sem]⟩
  obtain ⟨m0, m1, m2⟩ : YBox w4 w2.heap.size l T G := YBox.below ⟨m0, m1, m2⟩ hL4 za
  rw [← hw4]
  clear hw4 hL4 za
  have z3 : ¬ w3.heap.size = w.heap.size + 1 := by have := Y3.out; omega
  have z4 : ¬ w.heap.size + 1 = w3.heap.size := by have := Y3.out; omega
  obtain ⟨⟨f0, f1, f2⟩, g0, g1, g2⟩ := Q1_4.out
  obtain ⟨⟨f3, f4, f5⟩, g3, g4, g5⟩ := Q2_4.out
  go_wp2_with fail
  go_region_with (fail)
  all_goals
    go_wp2_with fail
    refine bodyPost_ret (v := .tuple #[.agg #[.int .i16 l, .int .i16 T, .int .i16 G], .agg #[.int .i16 (a - l), .int .i16 (b - T), .int .i16 (c - G)], .int .i64 0]) (by simp [results, go_sem, f0, f1, f2, f3, f4, f5, Tryd.f15]) rfl ?_
    refine ⟨?_, ((((((D4.out.setCell (by simp only; omega) _).setCell (by simp only; omega) _).setCell (by simp only; omega) _).setCell (by simp only; omega) _).setCell (by simp only; omega) _).setCell (by simp only; omega) _).drew⟩
    rw [JO.out]

set_option maxRecDepth 100000 in
set_option maxHeartbeats 40000000 in
theorem specCut_no (a b c l : Int) (w : World) (h16 : Is16 (a, b, c)) (hno : ¬ (okY (a, b, c) = true ∧ inB l 1 (a - 1) = true ∧ okR l (cutT a b l) (cutG a c l) = true ∧ okR (a - l) (b - cutT a b l) (c - cutG a c l) = true)) :
    Calls Tryd.prog 15 #[.agg #[.int .i16 a, .int .i16 b, .int .i16 c], .int .i64 l] w fun e w' => e = .returned (.tuple #[.agg #[.int .i16 (cutF a b c l).1.1, .int .i16 (cutF a b c l).1.2.1, .int .i16 (cutF a b c l).1.2.2], .agg #[.int .i16 (cutF a b c l).2.1.1, .int .i16 (cutF a b c l).2.1.2.1, .int .i16 (cutF a b c l).2.1.2.2], .int .i64 (cutF a b c l).2.2]) ∧ Below w.heap.size w w' := by
  have HNO := Lib.hid hno
  clear hno
  have HV := Lib.hid fun wx => l03Yarn_any a b c wx h16
  have HI := Lib.hid fun wx => in_any l 1 (a - 1) wx
  have JB := Lib.hid (cutF_1 (a := a) (b := b) (c := c) (l := l))
  have J2 := Lib.hid (cutF_2 (a := a) (b := b) (c := c) (l := l))
  have J4 := Lib.hid (cutF_4 (a := a) (b := b) (c := c) (l := l))
  have J0 := Lib.hid (cutF_0 (a := a) (b := b) (c := c) (l := l))
  have BD := Lib.hid (cut_bd (a := a) (b := b) (c := c) (l := l))
  have hw : wrap64 (a - 1) = a - 1 := (IntWalk.wrap64_in (a - 1) (by have := h16.1; simp only at this; omega)).trans (by omega)
  generalize cutF a b c l = out at *
  go_enter Tryd.func15, Tryd.ntmps15
  go_wp2_with fail
  refine (HV.out _).mono ?_
  rintro e w1 ⟨rfl, hB⟩
  have YB1 := Lib.hid (show YBox w1 w.heap.size a b c from YBox.below (w := ((w.alloc _).alloc _).alloc _) ⟨by simp [go_sem], by simp [go_sem], by simp [go_sem]⟩ hB (by simp only [World.size_alloc]; omega))
  have Q1_1 := Lib.hid (show YFree w1 (w.heap.size + 1) 0 0 0 from YFree.below (w := ((w.alloc _).alloc _).alloc _) ⟨⟨by simp [go_sem], by simp [go_sem], by simp [go_sem]⟩, by simp [go_sem], by simp [go_sem], by simp [go_sem]⟩ hB (by simp only [World.size_alloc]; omega))
  have Q2_1 := Lib.hid (show YFree w1 (w.heap.size + 1 + 1) 0 0 0 from YFree.below (w := ((w.alloc _).alloc _).alloc _) ⟨⟨by simp [go_sem], by simp [go_sem], by simp [go_sem]⟩, by simp [go_sem], by simp [go_sem], by simp [go_sem]⟩ hB (by simp only [World.size_alloc]; omega))
  have D1 := Lib.hid (((((Below.refl w.heap.size w).alloc (Nat.le_refl _) _).alloc (by simp only [World.size_alloc]; omega) _).alloc (by simp only [World.size_alloc]; omega) _).trans (hB.mono (by simp only [World.size_alloc]; omega)))
  have Y1 := Lib.hid (show w.heap.size + 2 < w1.heap.size by have hz := hB.size; simp only [World.size_alloc] at hz; omega)
  clear hB HV
  cases hok : okY (a, b, c) with
  | false =>
    have JO := Lib.hid (JB.out hok)
    clear JB J2 J4 J0 BD
    obtain ⟨⟨f0, f1, f2⟩, g0, g1, g2⟩ := Q1_1.out
    obtain ⟨⟨f3, f4, f5⟩, g3, g4, g5⟩ := Q2_1.out
    go_wp2_with fail
    refine bodyPost_ret (v := .tuple #[.agg #[.int .i16 0, .int .i16 0, .int .i16 0], .agg #[.int .i16 0, .int .i16 0, .int .i16 0], .int .i64 1]) (by simp [results, go_sem, f0, f1, f2, f3, f4, f5, Tryd.f15]) rfl ?_
    refine ⟨?_, ((((((D1.out.setCell (by simp only; omega) _).setCell (by simp only; omega) _).setCell (by simp only; omega) _).setCell (by simp only; omega) _).setCell (by simp only; omega) _).setCell (by simp only; omega) _)⟩
    rw [JO.out]
  | true =>
    obtain ⟨y0, y1, y2⟩ := YB1.out
    obtain ⟨⟨k1, k2⟩, ⟨k3, k4⟩, k5, k6⟩ := okY_of hok
    have hw2 : IntKind.i64.wrap (a - 1) = a - 1 := (IntWalk.i64_in (a - 1) (by omega)).trans (by omega)
    go_wp2_with fail
    refine (HI.out _).mono ?_
    rintro e w' ⟨rfl, rfl⟩
    cases hin : inB l 1 (a - 1) with
    | false =>
      have JO := Lib.hid (J2.out hok hin)
      clear JB J2 J4 J0 BD y0 y1 y2
      obtain ⟨⟨f0, f1, f2⟩, g0, g1, g2⟩ := Q1_1.out
      obtain ⟨⟨f3, f4, f5⟩, g3, g4, g5⟩ := Q2_1.out
      go_wp2_with fail
      refine bodyPost_ret (v := .tuple #[.agg #[.int .i16 0, .int .i16 0, .int .i16 0], .agg #[.int .i16 0, .int .i16 0, .int .i16 0], .int .i64 2]) (by simp [results, go_sem, f0, f1, f2, f3, f4, f5, Tryd.f15]) rfl ?_
      refine ⟨?_, ((((((D1.out.setCell (by simp only; omega) _).setCell (by simp only; omega) _).setCell (by simp only; omega) _).setCell (by simp only; omega) _).setCell (by simp only; omega) _).setCell (by simp only; omega) _)⟩
      rw [JO.out]
    | true =>
      obtain ⟨⟨n1, n2⟩, ⟨n3, n4⟩, ⟨n5, n6⟩, ⟨n7, n8⟩, hq⟩ := BD.out hok hin
      obtain ⟨l1, l2⟩ := inB_of hin
      have HF := Lib.hid fun wx => l03Down_any (b * l) a wx (by omega) (by omega)
      rw [show b * l / a = cutT a b l from rfl] at HF
      have KT := Lib.hid fun h => J4.out hok hin h
      have KF := Lib.hid fun h => J0.out hok hin h
      have u1 : ∀ [Inhabited Nat], IntKind.i64.wrap (b * l) = b * l := by intro _; exact (IntWalk.i64_in _ (by omega)).trans (by omega)
      have u2 : ∀ [Inhabited Nat], wrap64 (b * l) = b * l := by intro _; exact (IntWalk.wrap64_in _ (by omega)).trans (by omega)
      have u3 : ∀ [Inhabited Nat], IntKind.i64.wrap (c * l) = c * l := by intro _; exact (IntWalk.i64_in _ (by omega)).trans (by omega)
      have u4 : ∀ [Inhabited Nat], wrap64 (c * l) = c * l := by intro _; exact (IntWalk.wrap64_in _ (by omega)).trans (by omega)
      have u5 : ∀ [Inhabited Nat], IntKind.i64.wrap ((c * l).tdiv a) = cutG a c l := by intro _; rw [hq]; exact (IntWalk.i64_in _ (by omega)).trans (by omega)
      have u6 : ∀ [Inhabited Nat], wrap64 ((c * l).tdiv a) = cutG a c l := by intro _; rw [hq]; exact (IntWalk.wrap64_in _ (by omega)).trans (by omega)
      have u7 : (a == 0) = false := by rw [beq_eq_false_iff_ne]; omega
      have hcd : cutOk a b c l = (okR l (cutT a b l) (cutG a c l) && okR (a - l) (b - cutT a b l) (c - cutG a c l)) := rfl
      generalize cutT a b l = T at *
      generalize cutG a c l = G at *
      have HM1 := Lib.hid fun wx => l03Make_any l T G wx
      have HM2 := Lib.hid fun wx => l03Make_any (a - l) (b - T) (c - G) wx
      have HCD := Lib.hid hcd
      clear JB J2 J4 J0 BD hq hcd HI
      cases hk1 : okR l T G with
      | false =>
        have JO := Lib.hid (KT.out (by rw [HCD.out, hk1]; rfl))
        rw [mkY_no hk1, hk1] at HM1
        generalize okR (a - l) (b - T) (c - G) = r2 at *
        generalize (mkY (a - l) (b - T) (c - G)).1 = e0 at *
        generalize (mkY (a - l) (b - T) (c - G)).2.1 = e1 at *
        generalize (mkY (a - l) (b - T) (c - G)).2.2 = e2 at *
        go_wp2_with fail
        refine (HF.out _).mono ?_
        rintro e w' ⟨rfl, rfl⟩
        go_wp2_with fail
        refine (HM1.out _).mono ?_
        rintro e w2 ⟨rfl, hL⟩
        have YB2 := Lib.hid (YB1.out.below hL (by have := Y1.out; omega))
        have Q1_2 := Lib.hid (Q1_1.out.below hL (by have := Y1.out; omega))
        have Q2_2 := Lib.hid (Q2_1.out.below hL (by have := Y1.out; omega))
        have D2 := Lib.hid (D1.out.trans (hL.mono D1.out.size))
        have Y2 := Lib.hid (show w.heap.size + 2 < w2.heap.size by have := Y1.out; have := hL.size; omega)
        clear y0 y1 y2 hL
        obtain ⟨y0, y1, y2⟩ := YB2.out
        have yz : w.heap.size < w2.heap.size := by have := Y2.out; omega
        go_wp2_with fail
        refine (HM2.out _).mono ?_
        rintro e w3 ⟨rfl, hB⟩
        have hL : Below w2.heap.size w2 w3 := ((Below.refl _ _).alloc (Nat.le_refl _) _).trans (hB.mono (by simp only [World.size_alloc]; omega))
        have Q1_3 := Lib.hid (Q1_2.out.below hL (by have := Y2.out; omega))
        have Q2_3 := Lib.hid (Q2_2.out.below hL (by have := Y2.out; omega))
        have D3 := Lib.hid (D2.out.trans (hL.mono D2.out.size))
        have Y3 := Lib.hid (show w.heap.size + 2 < w3.heap.size by have := Y2.out; have := hL.size; omega)
        clear y0 y1 y2 hL hB yz u1 u2 u3 u4 u5 u6 u7 hw hw2 n1 n2 n3 n4
        go_upto_region 10 with fail
        obtain ⟨w4, hw4⟩ : ∃ w4, w4 = w3.alloc (.cells #[.int .i16 e0, .int .i16 e1, .int .i16 e2] 25) := ⟨_, rfl⟩
        have hL4 : Below w3.heap.size w3 w4 := by rw [hw4]; exact (Below.refl _ _).alloc (Nat.le_refl _) _
        have Q1_4 := Lib.hid (Q1_3.out.below hL4 (by have := Y3.out; omega))
        have Q2_4 := Lib.hid (Q2_3.out.below hL4 (by have := Y3.out; omega))
        have D4 := Lib.hid (D3.out.trans (hL4.mono D3.out.size))
        rw [← hw4]
        clear hw4 hL4
        obtain ⟨⟨f0, f1, f2⟩, g0, g1, g2⟩ := Q1_4.out
        obtain ⟨⟨f3, f4, f5⟩, g3, g4, g5⟩ := Q2_4.out
        go_wp2_with fail
        refine bodyPost_ret (v := .tuple #[.agg #[.int .i16 0, .int .i16 0, .int .i16 0], .agg #[.int .i16 0, .int .i16 0, .int .i16 0], .int .i64 4]) (by simp [results, go_sem, f0, f1, f2, f3, f4, f5, Tryd.f15]) rfl ?_
        refine ⟨?_, (((((D4.out.setCell (by simp only; omega) _).setCell (by simp only; omega) _).setCell (by simp only; omega) _).setCell (by simp only; omega) _).setCell (by simp only; omega) _).setCell (by simp only; omega) _⟩
        rw [JO.out]
      | true =>
        rw [mkY_yes hk1, hk1] at HM1
        cases hk2 : okR (a - l) (b - T) (c - G) with
        | false =>
          have JO := Lib.hid (KT.out (by rw [HCD.out, hk1, hk2]; rfl))
          rw [mkY_no hk2, hk2] at HM2
          go_wp2_with fail
          refine (HF.out _).mono ?_
          rintro e w' ⟨rfl, rfl⟩
          go_wp2_with fail
          refine (HM1.out _).mono ?_
          rintro e w2 ⟨rfl, hL⟩
          have YB2 := Lib.hid (YB1.out.below hL (by have := Y1.out; omega))
          have Q1_2 := Lib.hid (Q1_1.out.below hL (by have := Y1.out; omega))
          have Q2_2 := Lib.hid (Q2_1.out.below hL (by have := Y1.out; omega))
          have D2 := Lib.hid (D1.out.trans (hL.mono D1.out.size))
          have Y2 := Lib.hid (show w.heap.size + 2 < w2.heap.size by have := Y1.out; have := hL.size; omega)
          clear y0 y1 y2 hL
          obtain ⟨y0, y1, y2⟩ := YB2.out
          have yz : w.heap.size < w2.heap.size := by have := Y2.out; omega
          go_wp2_with fail
          refine (HM2.out _).mono ?_
          rintro e w3 ⟨rfl, hB⟩
          have hL : Below w2.heap.size w2 w3 := ((Below.refl _ _).alloc (Nat.le_refl _) _).trans (hB.mono (by simp only [World.size_alloc]; omega))
          have Q1_3 := Lib.hid (Q1_2.out.below hL (by have := Y2.out; omega))
          have Q2_3 := Lib.hid (Q2_2.out.below hL (by have := Y2.out; omega))
          have D3 := Lib.hid (D2.out.trans (hL.mono D2.out.size))
          have Y3 := Lib.hid (show w.heap.size + 2 < w3.heap.size by have := Y2.out; have := hL.size; omega)
          have hA : YBox w3 w2.heap.size l T G := YBox.below (w := w2.alloc _) ⟨by simp [go_sem], by simp [go_sem], by simp [go_sem]⟩ hB (by simp only [World.size_alloc]; omega)
          have za : w2.heap.size < w3.heap.size := by have hz := hB.size; simp only [World.size_alloc] at hz; omega
          obtain ⟨m0, m1, m2⟩ := hA
          clear y0 y1 y2 hL hB yz u1 u2 u3 u4 u5 u6 u7 hw hw2 n1 n2 n3 n4
          go_upto_region 10 with fail
          obtain ⟨w4, hw4⟩ : ∃ w4, w4 = w3.alloc (.cells #[.int .i16 0, .int .i16 0, .int .i16 0] 25) := ⟨_, rfl⟩
          have hL4 : Below w3.heap.size w3 w4 := by rw [hw4]; exact (Below.refl _ _).alloc (Nat.le_refl _) _
          have Q1_4 := Lib.hid (Q1_3.out.below hL4 (by have := Y3.out; omega))
          have Q2_4 := Lib.hid (Q2_3.out.below hL4 (by have := Y3.out; omega))
          have D4 := Lib.hid (D3.out.trans (hL4.mono D3.out.size))
          rw [← hw4]
          clear hw4 hL4
          obtain ⟨⟨f0, f1, f2⟩, g0, g1, g2⟩ := Q1_4.out
          obtain ⟨⟨f3, f4, f5⟩, g3, g4, g5⟩ := Q2_4.out
          go_wp2_with fail
          refine bodyPost_ret (v := .tuple #[.agg #[.int .i16 0, .int .i16 0, .int .i16 0], .agg #[.int .i16 0, .int .i16 0, .int .i16 0], .int .i64 4]) (by simp [results, go_sem, f0, f1, f2, f3, f4, f5, Tryd.f15]) rfl ?_
          refine ⟨?_, (((((D4.out.setCell (by simp only; omega) _).setCell (by simp only; omega) _).setCell (by simp only; omega) _).setCell (by simp only; omega) _).setCell (by simp only; omega) _).setCell (by simp only; omega) _⟩
          rw [JO.out]
        | true => exact absurd ⟨hok, hin, hk1, hk2⟩ HNO.out

theorem specCut_any (a b c l : Int) (w : World) (h16 : Is16 (a, b, c)) :
    Calls Tryd.prog 15 #[.agg #[.int .i16 a, .int .i16 b, .int .i16 c], .int .i64 l] w fun e w' => e = .returned (.tuple #[.agg #[.int .i16 (cutF a b c l).1.1, .int .i16 (cutF a b c l).1.2.1, .int .i16 (cutF a b c l).1.2.2], .agg #[.int .i16 (cutF a b c l).2.1.1, .int .i16 (cutF a b c l).2.1.2.1, .int .i16 (cutF a b c l).2.1.2.2], .int .i64 (cutF a b c l).2.2]) ∧ Below w.heap.size w w' := by
  by_cases h1 : okY (a, b, c) = true
  · by_cases h2 : inB l 1 (a - 1) = true
    · by_cases h3 : okR l (cutT a b l) (cutG a c l) = true
      · by_cases h4 : okR (a - l) (b - cutT a b l) (c - cutG a c l) = true
        · exact specCut_yes a b c l w h16 h1 h2 h3 h4
        · exact specCut_no a b c l w h16 fun h => h4 h.2.2.2
      · exact specCut_no a b c l w h16 fun h => h3 h.2.2.1
    · exact specCut_no a b c l w h16 fun h => h2 h.2.1
  · exact specCut_no a b c l w h16 fun h => h1 h.1
end Go.Proofs.YtpkjogenkdckpaaDoor
