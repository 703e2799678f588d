/-
  Proved here: the law on CutYarn answers true, for all arguments; condition: the six errors of chapter 3 lie where the program's text lays them.
-/
import Derived.Test.YtpkjogenkdckpaaDoorCutS
import Derived.Test.YtpkjogenkdckpaaDoorYnS
namespace Go.Proofs.YtpkjogenkdckpaaDoor
open Go.ChangeShapes Go.WideShapes Go.ChangeAt Go.RowKit

set_option linter.unusedVariables false in
set_option maxRecDepth 100000 in
set_option maxHeartbeats 4000000 in
theorem cutYarn_walk {H : Type} {enc : TypeId × Value → H} (w : World) (base : Nat)
    (v0 : Value) (d0 : DataW H) (p0 : List MemPlace) (o0 : Value.okWide Tryd.prog w .any base 32 v0) (k0 : DataW.Trod enc Tryd.prog w 0 (fun _ => true) true 32 v0 d0 p0)
    (v1 : Value) (d1 : DataW H) (p1 : List MemPlace) (o1 : Value.okWide Tryd.prog w .any base 2 v1) (k1 : DataW.Trod enc Tryd.prog w 0 (fun _ => true) true 2 v1 d1 p1)
    (p : Nat → Addr) (hs : Sent w p) :
    Calls Tryd.prog 4 #[v0, v1] w fun e w' => e = .returned (.bool true) ∧ Below w.heap.size w w' := by
  obtain ⟨a, b, c, rfl, h16⟩ := openYarn o0
  clear o0 k0
  obtain ⟨l, rfl, hx1⟩ := open_one Tryd.underlying2 o1
  clear o1 k1
  have HS := Lib.hid hs
  have CS := Lib.hid fun wx => specCut_any a b c l wx h16
  have CI := Lib.hid fun wx hx => implCut_any p a b c l wx hx h16
  clear h16 hs
  generalize (cutF a b c l).1.1 = x0 at *
  generalize (cutF a b c l).1.2.1 = x1 at *
  generalize (cutF a b c l).1.2.2 = x2 at *
  generalize (cutF a b c l).2.1.1 = y0 at *
  generalize (cutF a b c l).2.1.2.1 = y1 at *
  generalize (cutF a b c l).2.1.2.2 = y2 at *
  generalize (cutF a b c l).2.2 = r at *
  have hne : (r != r) = false := by simp
  go_enter Tryd.func4, Tryd.ntmps4
  go_wp2_with fail
  refine (toYarn_any _ _ _ _).mono ?_
  rintro e w1 ⟨rfl, hB⟩
  have D1 := Lib.hid (((Below.refl w.heap.size w).alloc (Nat.le_refl _) _).trans (hB.mono (by simp)))
  have YB1 := Lib.hid (show YBox w1 w.heap.size a b c from YBox.below (w := w.alloc _) ⟨by simp [go_sem], by simp [go_sem], by simp [go_sem]⟩ hB (by simp))
  have Y1 := Lib.hid (show w.heap.size < w1.heap.size by have hz := hB.size; simp only [World.size_alloc] at hz; omega)
  clear hB
  go_wp2_with fail
  refine (CS.out _).mono ?_
  rintro e w2 ⟨rfl, hB⟩
  have D2 := Lib.hid (D1.out.trans (hB.mono D1.out.size))
  have YB2 := Lib.hid (YB1.out.below hB Y1.out)
  have Y2 := Lib.hid (show w.heap.size < w2.heap.size by have := Y1.out; have := hB.size; omega)
  have z2 := Y2.out
  obtain ⟨m0, m1, m2⟩ := YB2.out
  clear hB CS YB1 YB2 Y1
  go_wp2_with fail
  refine (toYarn_any _ _ _ _).mono ?_
  rintro e w3 ⟨rfl, hB⟩
  have A3 := Lib.hid (show YBox w3 w2.heap.size x0 x1 x2 from YBox.below (w := (w2.alloc _).alloc _) ⟨by simp [go_sem], by simp [go_sem], by simp [go_sem]⟩ hB (by simp only [World.size_alloc]; omega))
  have B3 := Lib.hid (show YBox w3 (w2.heap.size + 1) y0 y1 y2 from YBox.below (w := (w2.alloc _).alloc _) ⟨by simp [go_sem], by simp [go_sem], by simp [go_sem]⟩ hB (by simp only [World.size_alloc]; omega))
  have D3 := Lib.hid (((D2.out.alloc D2.out.size _).alloc (by have := D2.out.size; simp only [World.size_alloc]; omega) _).trans (hB.mono (by have := D2.out.size; simp only [World.size_alloc]; omega)))
  have Y3 := Lib.hid (show w2.heap.size + 1 < w3.heap.size by have hz := hB.size; simp only [World.size_alloc] at hz; omega)
  clear hB m0 m1 m2 z2 Y2
  go_wp2_with fail
  refine (CI.out _ (HS.out.below D3.out)).mono ?_
  rintro e w4 ⟨rfl, hB⟩
  have A4 := Lib.hid (A3.out.below hB (by have := Y3.out; omega))
  have B4 := Lib.hid (B3.out.below hB Y3.out)
  have D4 := Lib.hid (D3.out.trans (hB.mono D3.out.size))
  have Y4 := Lib.hid (show w2.heap.size + 1 < w4.heap.size by have := Y3.out; have := hB.size; omega)
  have z4 : w2.heap.size < w4.heap.size := by have := Y4.out; omega
  obtain ⟨m0, m1, m2⟩ := A4.out
  clear hB CI A3 B3 D3 Y3
  go_wp2_with fail
  refine (eqYarn_same _ _ _ _).mono ?_
  rintro e w5 ⟨rfl, hB⟩
  have hL : Below w4.heap.size w4 w5 := (((Below.refl w4.heap.size w4).alloc (Nat.le_refl _) _).alloc (by simp only [World.size_alloc]; omega) _).trans (hB.mono (by simp only [World.size_alloc]; omega))
  have B5 := Lib.hid (B4.out.below hL Y4.out)
  have G5 := Lib.hid (show YBox w5 (w4.heap.size + 1) y0 y1 y2 from YBox.below (w := (w4.alloc _).alloc _) ⟨by simp [go_sem], by simp [go_sem], by simp [go_sem]⟩ hB (by simp only [World.size_alloc]; omega))
  have D5 := Lib.hid (D4.out.trans (hL.mono D4.out.size))
  obtain ⟨n0, n1, n2⟩ := B5.out
  obtain ⟨g0, g1, g2⟩ := G5.out
  clear hB hL m0 m1 m2 z4
  go_wp2_with fail
  refine (eqYarn_same _ _ _ _).mono ?_
  rintro e w6 ⟨rfl, hB⟩
  have D6 := Lib.hid (D5.out.trans (hB.mono D5.out.size))
  clear hB n0 n1 n2 g0 g1 g2
  go_wp2_with fail
  go_ret
  exact ⟨rfl, D6.out⟩
end Go.Proofs.YtpkjogenkdckpaaDoor
