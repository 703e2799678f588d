/-
  Proved here: the law on SpinHeap answers true, for all arguments; condition: the six errors of chapter 3 lie where the program's text lays them.
-/
import Derived.Test.YtpkjogenkdckpaaDoorSpin
import Derived.Test.YtpkjogenkdckpaaDoorYnS
import Derived.Test.YtpkjogenkdckpaaDoorYnFrac
namespace Go.Proofs.YtpkjogenkdckpaaDoor
open Go.ChangeShapes Go.WideShapes Go.ChangeAt Go.RowKit

set_option linter.unusedVariables false in
set_option maxRecDepth 100000 in
set_option maxHeartbeats 4000000 in
theorem spinHeap_walk {H : Type} {enc : TypeId × Value → H} (w : World) (base : Nat)
    (v0 : Value) (d0 : DataW H) (p0 : List MemPlace) (o0 : Value.okWide Tryd.prog w .any base 22 v0) (k0 : DataW.Trod enc Tryd.prog w 0 (fun _ => true) true 22 v0 d0 p0)
    (v1 : Value) (d1 : DataW H) (p1 : List MemPlace) (o1 : Value.okWide Tryd.prog w .any base 2 v1) (k1 : DataW.Trod enc Tryd.prog w 0 (fun _ => true) true 2 v1 d1 p1)
    (v2 : Value) (d2 : DataW H) (p2 : List MemPlace) (o2 : Value.okWide Tryd.prog w .any base 2 v2) (k2 : DataW.Trod enc Tryd.prog w 0 (fun _ => true) true 2 v2 d2 p2)
    (p : Nat → Addr) (hs : Sent w p) :
    Calls Tryd.prog 3 #[v0, v1, v2] w fun e w' => e = .returned (.bool true) ∧ Below w.heap.size w w' := by
  obtain ⟨x0, x1, x2, x3, x4, x5, x6, x7, rfl, h0, h1, h2, h3, h4, h5, h6, h7⟩ := open8 o0
  clear o0 k0
  have hb := bd32_z8 h0 h1 h2 h3 h4 h5 h6 h7
  clear h0 h1 h2 h3 h4 h5 h6 h7
  obtain ⟨n, rfl, hx1⟩ := open_one Tryd.underlying2 o1
  clear o1 k1
  obtain ⟨r, rfl, hx2⟩ := open_one Tryd.underlying2 o2
  clear o2 k2
  have HS := Lib.hid hs
  have CS := Lib.hid fun wx => specSpin_any x0 x1 x2 x3 x4 x5 x6 x7 n r wx hb
  have CI := Lib.hid fun wx hx => implSpin_any p x0 x1 x2 x3 x4 x5 x6 x7 n r wx hx hb
  clear hb hs
  generalize (spinF (z8 x0 x1 x2 x3 x4 x5 x6 x7) n r).1.1 = a at *
  generalize (spinF (z8 x0 x1 x2 x3 x4 x5 x6 x7) n r).1.2.1 = b at *
  generalize (spinF (z8 x0 x1 x2 x3 x4 x5 x6 x7) n r).1.2.2 = c at *
  generalize (spinF (z8 x0 x1 x2 x3 x4 x5 x6 x7) n r).2 = k at *
  have hne : (k != k) = false := by simp
  go_enter Tryd.func3, Tryd.ntmps3
  go_wp2_with fail
  refine (toHeap_any x0 x1 x2 x3 x4 x5 x6 x7 _).mono ?_
  rintro e w1 ⟨rfl, hB⟩
  have D1 := Lib.hid (((Below.refl w.heap.size w).alloc (Nat.le_refl _) _).trans (hB.mono (by simp)))
  have A1 := Lib.hid ((heapAt_alloc w x0 x1 x2 x3 x4 x5 x6 x7 22).below hB (by simp))
  clear hB
  go_wp2_with fail
  refine (CS.out _).mono ?_
  rintro e w2 ⟨rfl, hB⟩
  have D2 := Lib.hid (D1.out.trans (hB.mono D1.out.size))
  have A2 := Lib.hid (A1.out.below hB A1.out.lt)
  have z2 : w.heap.size < w2.heap.size := A2.out.lt
  have e0 := A2.out 0 (by omega)
  have e1 := A2.out 1 (by omega)
  have e2 := A2.out 2 (by omega)
  have e3 := A2.out 3 (by omega)
  have e4 := A2.out 4 (by omega)
  have e5 := A2.out 5 (by omega)
  have e6 := A2.out 6 (by omega)
  have e7 := A2.out 7 (by omega)
  simp only [z8, Nat.zero_add] at e0 e1 e2 e3 e4 e5 e6 e7
  clear hB CS A1 D1
  go_wp2_with fail
  refine (toHeap_any x0 x1 x2 x3 x4 x5 x6 x7 _).mono ?_
  rintro e w3 ⟨rfl, hB⟩
  have D3 := Lib.hid ((D2.out.alloc D2.out.size _).trans (hB.mono (by have := D2.out.size; simp only [World.size_alloc]; omega)))
  have Y3 := Lib.hid (show YBox w3 w2.heap.size a b c from YBox.below (w := w2.alloc _) ⟨by simp [go_sem], by simp [go_sem], by simp [go_sem]⟩ hB (by simp only [World.size_alloc]; omega))
  have z3 := Lib.hid (show w2.heap.size < w3.heap.size by have := hB.size; simp only [World.size_alloc] at this; omega)
  clear hB e0 e1 e2 e3 e4 e5 e6 e7 z2
  go_wp2_with fail
  refine (CI.out _ (HS.out.below D3.out)).mono ?_
  rintro e w4 ⟨rfl, hB⟩
  have D4 := Lib.hid (D3.out.trans (hB.mono D3.out.size))
  have Y4 := Lib.hid (Y3.out.below hB z3.out)
  have z4 : w2.heap.size < w4.heap.size := by have := z3.out; have := hB.size; omega
  obtain ⟨m0, m1, m2⟩ := Y4.out
  clear hB CI
  go_wp2_with fail
  refine (eqYarn_same _ _ _ _).mono ?_
  rintro e w5 ⟨rfl, hB⟩
  have D5 := Lib.hid ((D4.out.alloc D4.out.size _).trans (hB.mono (by have := D4.out.size; simp only [World.size_alloc]; omega)))
  clear hB m0 m1 m2
  go_wp2_with fail
  go_ret
  exact ⟨rfl, D5.out⟩
end Go.Proofs.YtpkjogenkdckpaaDoor
