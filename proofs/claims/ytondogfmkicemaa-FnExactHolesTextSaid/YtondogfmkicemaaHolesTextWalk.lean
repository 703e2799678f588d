/-
  Proved here: the law on HolesText answers true, for all arguments; condition: none.
-/
import Derived.Test.YtondogfmkicemaaHtI
import Derived.Test.YtondogfmkicemaaHoC
namespace Go.Proofs.Ytondogfmkicemaa
open Go.ChangeShapes Go.WideShapes Go.ChangeAt Go.RowKit

set_option linter.unusedVariables false in
set_option maxRecDepth 100000 in
set_option maxHeartbeats 8000000 in
theorem holesText_walk {H : Type} {enc : TypeId × Value → H} (w : World) (base : Nat)
    (v0 : Value) (d0 : DataW H) (p0 : List MemPlace) (o0 : Value.okWide Try.prog w .any base 22 v0) (k0 : DataW.Trod enc Try.prog w 0 (fun _ => true) true 22 v0 d0 p0)
    :
    Calls Try.prog 3 #[v0] w fun e w' => e = .returned (.bool true) ∧ Below w.heap.size w w' := by
  obtain ⟨h, rfl, h8⟩ := open_holes o0
  clear o0 k0
  have CS := Lib.hid fun wx => specHText_any h wx h8
  have CI := Lib.hid fun wx  => implHText_any h wx h8
  have TH := Lib.hid fun wx => toHoles_any h wx
  generalize ((⟨(txH h 8).toArray⟩ : ByteArray)) = q0 at *
  have A0 := Lib.hid (hat_made w 22 h)
  have T0 : Hid (Below w.heap.size w (w.alloc (.cells #[.int .u8 (h 0), .int .u8 (h 1), .int .u8 (h 2), .int .u8 (h 3), .int .u8 (h 4), .int .u8 (h 5), .int .u8 (h 6), .int .u8 (h 7)] 22))) := Lib.hid (by go_grown)
  clear h8
  go_enter Try.func3, Try.ntmps3
  obtain ⟨a0, a1, a2, a3, a4, a5, a6, a7⟩ : _ ∧ _ ∧ _ ∧ _ ∧ _ ∧ _ ∧ _ ∧ _ := ⟨A0.out 0 (by omega), A0.out 1 (by omega), A0.out 2 (by omega), A0.out 3 (by omega), A0.out 4 (by omega), A0.out 5 (by omega), A0.out 6 (by omega), A0.out 7 (by omega)⟩
  go_wp2_with fail
  refine (TH.out _).mono ?_
  rintro e w1 ⟨rfl, hB⟩
  have T1 := Lib.hid (T0.out.trans (hB.mono T0.out.size))
  have A1 := Lib.hid (A0.out.below hB)
  clear hB a0 a1 a2 a3 a4 a5 a6 a7 A0
  go_wp2_with fail
  refine (CS.out _).mono ?_
  rintro e w2 ⟨rfl, hB⟩
  have T2 := Lib.hid (T1.out.trans (hB.mono T1.out.size))
  have A2 := Lib.hid (A1.out.below hB)
  clear hB A1
  obtain ⟨a0, a1, a2, a3, a4, a5, a6, a7⟩ : _ ∧ _ ∧ _ ∧ _ ∧ _ ∧ _ ∧ _ ∧ _ := ⟨A2.out 0 (by omega), A2.out 1 (by omega), A2.out 2 (by omega), A2.out 3 (by omega), A2.out 4 (by omega), A2.out 5 (by omega), A2.out 6 (by omega), A2.out 7 (by omega)⟩
  go_wp2_with fail
  refine (TH.out _).mono ?_
  rintro e w3 ⟨rfl, hB⟩
  have T3 := Lib.hid (T2.out.trans (hB.mono T2.out.size))
  have A3 := Lib.hid (A2.out.below hB)
  clear hB a0 a1 a2 a3 a4 a5 a6 a7 A2
  go_wp2_with fail
  refine (CI.out _).mono ?_
  rintro e w4 ⟨rfl, hB⟩
  have T4 := Lib.hid (T3.out.trans (hB.mono T3.out.size))
  have A4 := Lib.hid (A3.out.below hB)
  clear hB A3
  go_wp2
  go_ret
  exact ⟨rfl, T4.out⟩
end Go.Proofs.Ytondogfmkicemaa
