/-
  Proved here: the law on ValidYarn answers true, for all arguments; no condition.
-/
import Derived.Test.YtpkjogenkdckpaaYnOk
import Derived.Test.YtpkjogenkdckpaaYnS
namespace Go.Proofs.Ytpkjogenkdckpaa
open Go.ChangeShapes Go.WideShapes Go.ChangeAt Go.RowKit

theorem specValidYarn_any (a b c : Int) (w : World) (h : Is16 (a, b, c)) :
    Calls Try.prog 7 #[.agg #[.int .i16 a, .int .i16 b, .int .i16 c]] w fun e w' => e = .returned (.bool (okY (a, b, c))) ∧ Below w.heap.size w w' := by
  have H1 := Lib.hid fun wx => l03Yarn_any a b c wx h
  clear h
  generalize okY (a, b, c) = r at *
  go_enter Try.func7, Try.ntmps7
  go_wp2_with fail
  refine (H1.out _).mono ?_
  rintro e w1 ⟨rfl, hB⟩
  have B1 := Lib.hid (((Below.refl w.heap.size w).alloc (Nat.le_refl _) _).trans (hB.mono (by simp)))
  clear hB
  go_wp2
  go_ret
  exact ⟨rfl, B1.out⟩

set_option linter.unusedVariables false in
set_option maxHeartbeats 1000000 in
theorem validYarn_walk {H : Type} {enc : TypeId × Value → H} (w : World) (base : Nat)
    (v0 : Value) (d0 : DataW H) (p0 : List MemPlace) (o0 : Value.okWide Try.prog w .any base 24 v0) (k0 : DataW.Trod enc Try.prog w 0 (fun _ => true) true 24 v0 d0 p0) :
    Calls Try.prog 3 #[v0] w fun e w' => e = .returned (.bool true) ∧ Below w.heap.size w w' := by
  obtain ⟨a, b, c, rfl, h16⟩ := openYarn o0
  clear o0 k0
  have HS := Lib.hid fun wx => specValidYarn_any a b c wx h16
  have HI := Lib.hid fun wx => validYarn_any a b c wx h16
  clear h16
  generalize okY (a, b, c) = r at *
  have hne : (r != r) = false := by simp
  go_enter Try.func3, Try.ntmps3
  go_wp2_with fail
  refine (toYarn_any _ _ _ _).mono ?_
  rintro e w1 ⟨rfl, hB⟩
  have B1 := Lib.hid (((Below.refl w.heap.size w).alloc (Nat.le_refl _) _).trans (hB.mono (by simp)))
  have Z1 := hB.size
  simp only [World.size_alloc] at Z1
  have c0 : w1.cell? ⟨w.heap.size, 0, none⟩ = some (.int .i16 a) := kept hB (by simp) (by simp [go_sem])
  have c1 : w1.cell? ⟨w.heap.size, 1, none⟩ = some (.int .i16 b) := kept hB (by simp) (by simp [go_sem])
  have c2 : w1.cell? ⟨w.heap.size, 2, none⟩ = some (.int .i16 c) := kept hB (by simp) (by simp [go_sem])
  clear hB
  go_wp2_with fail
  refine (HS.out _).mono ?_
  rintro e w2 ⟨rfl, hB⟩
  have B2 := Lib.hid (B1.out.trans (hB.mono B1.out.size))
  have e0 : w2.cell? ⟨w.heap.size, 0, none⟩ = some (.int .i16 a) := kept hB (by omega) c0
  have e1 : w2.cell? ⟨w.heap.size, 1, none⟩ = some (.int .i16 b) := kept hB (by omega) c1
  have e2 : w2.cell? ⟨w.heap.size, 2, none⟩ = some (.int .i16 c) := kept hB (by omega) c2
  clear hB c0 c1 c2
  go_wp2_with fail
  refine (toYarn_any _ _ _ _).mono ?_
  rintro e w3 ⟨rfl, hB⟩
  have B3 := Lib.hid (B2.out.trans (hB.mono B2.out.size))
  clear hB e0 e1 e2
  go_wp2_with fail
  refine (HI.out _).mono ?_
  rintro e w4 ⟨rfl, hB⟩
  have B4 := Lib.hid (B3.out.trans (hB.mono B3.out.size))
  clear hB
  go_wp2
  go_ret
  exact ⟨rfl, B4.out⟩
end Go.Proofs.Ytpkjogenkdckpaa
