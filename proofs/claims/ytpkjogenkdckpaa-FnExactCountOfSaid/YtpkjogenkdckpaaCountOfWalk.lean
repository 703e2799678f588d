/-
  Proved here: the law on CountOf answers true, for all arguments; no condition.
-/
import Derived.Test.YtpkjogenkdckpaaYnFrac
import Derived.Test.YtpkjogenkdckpaaYnS
namespace Go.Proofs.Ytpkjogenkdckpaa
open Go.ChangeShapes Go.WideShapes Go.ChangeAt Go.RowKit

theorem eqFr_same (x y : Int) (w : World) : Calls Try.prog 17 #[.agg #[.int .i64 x, .int .i64 y], .agg #[.int .i64 x, .int .i64 y]] w fun e w' => e = .returned (.bool true) ∧ Below w.heap.size w w' := by
  have hx : (x != x) = false := by simp
  have hy : (y != y) = false := by simp
  go_enter Try.func17, Try.ntmps17
  go_wp2
  go_ret
  exact ⟨rfl, by go_grown⟩

set_option linter.unusedVariables false in
set_option maxRecDepth 100000 in
set_option maxHeartbeats 2000000 in
theorem countOf_walk {H : Type} {enc : TypeId × Value → H} (w : World) (base : Nat)
    (v0 : Value) (d0 : DataW H) (p0 : List MemPlace) (o0 : Value.okWide Try.prog w .any base 24 v0) (k0 : DataW.Trod enc Try.prog w 0 (fun _ => true) true 24 v0 d0 p0) :
    Calls Try.prog 5 #[v0] w fun e w' => e = .returned (.bool true) ∧ Below w.heap.size w w' := by
  obtain ⟨a, b, c, rfl, h16⟩ := openYarn o0
  clear o0 k0
  have HS := Lib.hid fun wx => specCountOf_any a b c wx h16
  have HI := Lib.hid fun wx => implCountOf_any a b c wx h16
  clear h16
  generalize (cntF a b c).1 = p at *
  generalize (cntF a b c).2.1 = q at *
  generalize (cntF a b c).2.2 = r at *
  have hne : (r != r) = false := by simp
  go_enter Try.func5, Try.ntmps5
  go_wp2_with fail
  refine (toYarn_any _ _ _ _).mono ?_
  rintro e w1 ⟨rfl, hB⟩
  have B1 := Lib.hid (((Below.refl w.heap.size w).alloc (Nat.le_refl _) _).trans (hB.mono (by simp)))
  have hY : YBox w1 w.heap.size a b c := YBox.below (w := w.alloc _) ⟨by simp [go_sem], by simp [go_sem], by simp [go_sem]⟩ hB (by simp)
  have hz1 := hB.size
  simp only [World.size_alloc] at hz1
  have HY := Lib.hid hY
  clear hB hY
  go_wp2_with fail
  refine (HS.out _).mono ?_
  rintro e w2 ⟨rfl, hB⟩
  have B2 := Lib.hid (B1.out.trans (hB.mono B1.out.size))
  have hz2 := hB.size
  have hY : YBox w2 w.heap.size a b c := HY.out.below hB (by omega)
  have HY2 := Lib.hid hY
  have hlt2 : w.heap.size < w2.heap.size := by omega
  have y0 : (w2.alloc (.cells #[.int .i64 p, .int .i64 q] 36)).cell? ⟨w.heap.size, 0, none⟩ = some (.int .i16 a) := (World.cell?_alloc_lt w2 _ ⟨_, _, none⟩ hlt2).trans hY.1
  have y1 : (w2.alloc (.cells #[.int .i64 p, .int .i64 q] 36)).cell? ⟨w.heap.size, 1, none⟩ = some (.int .i16 b) := (World.cell?_alloc_lt w2 _ ⟨_, _, none⟩ hlt2).trans hY.2.1
  have y2 : (w2.alloc (.cells #[.int .i64 p, .int .i64 q] 36)).cell? ⟨w.heap.size, 2, none⟩ = some (.int .i16 c) := (World.cell?_alloc_lt w2 _ ⟨_, _, none⟩ hlt2).trans hY.2.2
  clear hB hY HY
  go_wp2_with fail
  refine (toYarn_any _ _ _ _).mono ?_
  rintro e w3 ⟨rfl, hB⟩
  have hz3 := hB.size
  simp only [World.size_alloc] at hz3
  have B3 := Lib.hid ((B2.out.alloc B2.out.size _).trans (hB.mono (by simp; omega)))
  have c0 : w3.cell? ⟨w2.heap.size, 0, none⟩ = some (.int .i64 p) := (hB.cell (p := ⟨w2.heap.size, 0, none⟩) (by simp)).trans (by simp [go_sem])
  have c1 : w3.cell? ⟨w2.heap.size, 1, none⟩ = some (.int .i64 q) := (hB.cell (p := ⟨w2.heap.size, 1, none⟩) (by simp)).trans (by simp [go_sem])
  have C0 := Lib.hid c0
  have C1 := Lib.hid c1
  clear hB y0 y1 y2 c0 c1
  go_wp2_with fail
  refine (HI.out _).mono ?_
  rintro e w4 ⟨rfl, hB⟩
  have B4 := Lib.hid (B3.out.trans (hB.mono B3.out.size))
  have hz4 := hB.size
  have hlt4 : w2.heap.size < w4.heap.size := by omega
  have c0 : w4.cell? ⟨w2.heap.size, 0, none⟩ = some (.int .i64 p) := (hB.cell (p := ⟨w2.heap.size, 0, none⟩) (by exact hz3)).trans C0.out
  have c1 : w4.cell? ⟨w2.heap.size, 1, none⟩ = some (.int .i64 q) := (hB.cell (p := ⟨w2.heap.size, 1, none⟩) (by exact hz3)).trans C1.out
  clear hB
  go_wp2_with fail
  refine (eqFr_same p q _).mono ?_
  rintro e w5 ⟨rfl, hB⟩
  have B5 := Lib.hid ((B4.out.alloc B4.out.size _).trans (hB.mono (by have := B4.out.size; simp; omega)))
  clear hB
  go_wp2_with fail
  go_ret
  exact ⟨rfl, B5.out⟩
end Go.Proofs.Ytpkjogenkdckpaa
