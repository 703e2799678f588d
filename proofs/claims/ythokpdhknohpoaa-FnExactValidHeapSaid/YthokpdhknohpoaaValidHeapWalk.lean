/-
  Proved here: the law on ValidHeap answers true, for all arguments; no condition.
-/
import Derived.Test.YthokpdhknohpoaaHeap1
namespace Go.Proofs.Ythokpdhknohpoaa
open Go.RowKit

set_option linter.unusedVariables false in
theorem validHeap_walk {H : Type} {enc : TypeId × Value → H} (w : World) (base : Nat)
    (v0 : Value) (d0 : DataW H) (p0 : List MemPlace) (o0 : Value.okWide Try.prog w .any base 33 v0) (k0 : DataW.Trod enc Try.prog w 0 (fun _ => true) true 33 v0 d0 p0) :
    Calls Try.prog 5 #[v0] w fun e w' => e = .returned (.bool true) ∧ Below w.heap.size w w' := by
  obtain ⟨x0, x1, x2, x3, x4, x5, x6, x7, rfl, h0, h1, h2, h3, h4, h5, h6, h7⟩ := open8 o0
  clear o0 k0
  have hb := bd32_z8 h0 h1 h2 h3 h4 h5 h6 h7
  clear h0 h1 h2 h3 h4 h5 h6 h7
  have c1 := Lib.hid fun wx => specValidHeap_any x0 x1 x2 x3 x4 x5 x6 x7 hb wx
  have c2 := Lib.hid fun wx => validHeap_any x0 x1 x2 x3 x4 x5 x6 x7 wx
  clear hb
  generalize okH (z8 x0 x1 x2 x3 x4 x5 x6 x7) = ok at *
  have hne : (ok != ok) = false := by simp
  go_enter Try.func5, Try.ntmps5
  go_wp2_with fail
  refine (toHeap_any x0 x1 x2 x3 x4 x5 x6 x7 _).mono ?_
  rintro e w1 ⟨rfl, hB⟩
  have hB1 : Below w.heap.size w w1 := ((Below.refl _ _).alloc (Nat.le_refl _) _).trans (hB.mono (by simp))
  have hh1 := (heapAt_alloc w x0 x1 x2 x3 x4 x5 x6 x7 33).below hB (by simp)
  have hz1 := hB.size
  clear hB
  go_wp2_with fail
  refine (c1.out _).mono ?_
  rintro e w2 ⟨rfl, hB⟩
  have hB2 : Below w.heap.size w w2 := hB1.trans (hB.mono (by simp at hz1; omega))
  have hh2 := hh1.below hB hh1.lt
  have e0 := hh2 0 (by omega)
  have e1 := hh2 1 (by omega)
  have e2 := hh2 2 (by omega)
  have e3 := hh2 3 (by omega)
  have e4 := hh2 4 (by omega)
  have e5 := hh2 5 (by omega)
  have e6 := hh2 6 (by omega)
  have e7 := hh2 7 (by omega)
  simp only [z8, Nat.zero_add] at e0 e1 e2 e3 e4 e5 e6 e7
  clear hB hh2 hh1 hB1
  go_wp2_with fail
  refine (toHeap_any x0 x1 x2 x3 x4 x5 x6 x7 _).mono ?_
  rintro e w3 ⟨rfl, hB⟩
  have hB3 : Below w.heap.size w w3 := hB2.trans (hB.mono hB2.size)
  clear hB
  go_wp2_with fail
  refine (c2.out _).mono ?_
  rintro e w4 ⟨rfl, hB⟩
  have hB4 : Below w.heap.size w w4 := hB3.trans (hB.mono hB3.size)
  clear hB
  go_wp2
  go_ret
  exact ⟨rfl, hB4⟩
end Go.Proofs.Ythokpdhknohpoaa
