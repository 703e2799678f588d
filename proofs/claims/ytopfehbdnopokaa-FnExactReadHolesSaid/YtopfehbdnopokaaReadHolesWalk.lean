/-
  Proved here: the law on ReadHoles answers true, for all arguments; no condition.
-/
import Derived.Test.YtopfehbdnopokaaRhS
import Derived.Test.YtopfehbdnopokaaRhI
import Derived.Test.YtopfehbdnopokaaHoL
namespace Go.Proofs.Ytopfehbdnopokaa
open Go.ChangeShapes Go.WideShapes Go.ChangeAt Go.RowKit

set_option linter.unusedVariables false in
set_option maxRecDepth 100000 in
set_option maxHeartbeats 8000000 in
theorem readHoles_walk {H : Type} {enc : TypeId × Value → H} (w : World) (base : Nat)
    (v0 : Value) (d0 : DataW H) (p0 : List MemPlace) (o0 : Value.okWide Try.prog w .any base 9 v0) (k0 : DataW.Trod enc Try.prog w 0 (fun _ => true) true 9 v0 d0 p0) :
    Calls Try.prog 3 #[v0] w fun e w' => e = .returned (.bool true) ∧ Below w.heap.size w w' := by
  obtain ⟨s, rfl, _, _, _⟩ := Go.ChangeMaps.open_string Try.underlying9 o0 k0
  clear o0 k0
  by_cases hs : s.size ≤ 1048576
  · have CS := Lib.hid fun wx => specRead_any s wx hs
    have CI := Lib.hid fun wx => implRead_any s wx
    generalize (readF s.data.toList).1 = q0 at *
    generalize (readF s.data.toList).2 = q1 at *
    have e1 : (q1 != q1) = false := by simp
    have hsi : (s.size : Int) ≤ 1048576 := by omega
    clear hs
    go_enter Try.func3, Try.ntmps3
    go_wp2_with fail
    refine (CS.out _).mono ?_
    rintro e w1 ⟨rfl, hB⟩
    have T1 := Lib.hid (hB.alloc hB.size (.cells #[.int .u8 (q0 0), .int .u8 (q0 1), .int .u8 (q0 2), .int .u8 (q0 3), .int .u8 (q0 4), .int .u8 (q0 5), .int .u8 (q0 6), .int .u8 (q0 7)] 23))
    have W1 := Lib.hid (hat_made w1 23 q0)
    clear hB
    go_wp2_with fail
    refine (CI.out _).mono ?_
    rintro e w2 ⟨rfl, hB⟩
    have T2 := Lib.hid ((T1.out.trans (hB.mono T1.out.size)).alloc (T1.out.trans (hB.mono T1.out.size)).size (.cells #[.int .u8 (q0 0), .int .u8 (q0 1), .int .u8 (q0 2), .int .u8 (q0 3), .int .u8 (q0 4), .int .u8 (q0 5), .int .u8 (q0 6), .int .u8 (q0 7)] 23))
    have W2 := Lib.hid ((W1.out.below hB).below ((Below.refl _ _).alloc (Nat.le_refl _) (.cells #[.int .u8 (q0 0), .int .u8 (q0 1), .int .u8 (q0 2), .int .u8 (q0 3), .int .u8 (q0 4), .int .u8 (q0 5), .int .u8 (q0 6), .int .u8 (q0 7)] 23)))
    have G2 := Lib.hid (hat_made w2 23 q0)
    clear hB W1 T1
    obtain ⟨a0, a1, a2, a3, a4, a5, a6, a7⟩ : _ ∧ _ ∧ _ ∧ _ ∧ _ ∧ _ ∧ _ ∧ _ := ⟨G2.out 0 (by omega), G2.out 1 (by omega), G2.out 2 (by omega), G2.out 3 (by omega), G2.out 4 (by omega), G2.out 5 (by omega), G2.out 6 (by omega), G2.out 7 (by omega)⟩
    obtain ⟨b0, b1, b2, b3, b4, b5, b6, b7⟩ : _ ∧ _ ∧ _ ∧ _ ∧ _ ∧ _ ∧ _ ∧ _ := ⟨W2.out 0 (by omega), W2.out 1 (by omega), W2.out 2 (by omega), W2.out 3 (by omega), W2.out 4 (by omega), W2.out 5 (by omega), W2.out 6 (by omega), W2.out 7 (by omega)⟩
    go_wp2_with fail
    refine (eqHoles_same q0 _).mono ?_
    rintro e w3 ⟨rfl, hB⟩
    have T3 := Lib.hid (T2.out.trans (hB.mono T2.out.size))
    clear hB a0 a1 a2 a3 a4 a5 a6 a7 b0 b1 b2 b3 b4 b5 b6 b7 T2 W2 G2
    go_wp2
    go_ret
    exact ⟨rfl, T3.out⟩
  · have hsi : ¬ (s.size : Int) ≤ 1048576 := by omega
    have hsj : 1048576 < (s.size : Int) := by omega
    clear hs hsi
    go_enter Try.func3, Try.ntmps3
    go_wp2
    go_ret
    exact ⟨rfl, Below.refl _ _⟩
end Go.Proofs.Ytopfehbdnopokaa
