/-
  Proved here: the law on MakeFraction answers true, for all arguments; no condition but that they are int64s.
-/
import Derived.Test.YthokpdhknohpoaaMakes
namespace Go.Proofs.Ythokpdhknohpoaa
open Go.RowKit

theorem eqFr_same (x y : Int) (w : World) : Calls Try.prog 16 #[.agg #[.int .i64 x, .int .i64 y], .agg #[.int .i64 x, .int .i64 y]] w fun e w' => e = .returned (.bool true) ∧ Below w.heap.size w w' := by
  have hx : (x != x) = false := by simp
  have hy : (y != y) = false := by simp
  go_enter Try.func16, Try.ntmps16
  go_wp2
  go_ret
  exact ⟨rfl, by go_grown⟩

set_option linter.unusedVariables false in
theorem makeFraction_walk {H : Type} {enc : TypeId × Value → H} (w : World) (base : Nat)
    (v0 : Value) (d0 : DataW H) (p0 : List MemPlace) (o0 : Value.okWide Try.prog w .any base 2 v0) (k0 : DataW.Trod enc Try.prog w 0 (fun _ => true) true 2 v0 d0 p0)
    (v1 : Value) (d1 : DataW H) (p1 : List MemPlace) (o1 : Value.okWide Try.prog w .any base 2 v1) (k1 : DataW.Trod enc Try.prog w 0 (fun _ => true) true 2 v1 d1 p1) :
    Calls Try.prog 3 #[v0, v1] w fun e w' => e = .returned (.bool true) ∧ Below w.heap.size w w' := by
  obtain ⟨n, rfl, hn⟩ := open_one Try.underlying2 o0
  obtain ⟨d, rfl, hd⟩ := open_one Try.underlying2 o1
  clear o0 k0 o1 k1
  obtain ⟨x, y, c, hF⟩ : ∃ x y c, mkF n d = (x, y, c) := ⟨_, _, _, rfl⟩
  have h1 := Lib.hid fun wx => specMake_any n d x y c wx hF
  have h2 := Lib.hid fun wx => implMake_any n d x y c wx hF
  clear hF hn hd
  go_enter Try.func3, Try.ntmps3
  go_wp2_with fail
  refine (h1.out _).mono ?_
  rintro e w1 ⟨rfl, hB⟩
  go_wp2_with fail
  refine (h2.out _).mono ?_
  rintro e w2 ⟨rfl, hB2⟩
  have hz := hB2.size
  have hc := bcell hB2
  simp only [World.size_alloc] at hz
  have c0 : w2.cell? ⟨w1.heap.size, 0, none⟩ = some (.int .i64 x) := (hc.1 _ _ (by simp)).trans (by simp [go_sem])
  have c1 : w2.cell? ⟨w1.heap.size, 1, none⟩ = some (.int .i64 y) := (hc.1 _ _ (by simp)).trans (by simp [go_sem])
  have hB3 : Below w.heap.size w w2 := (hB.alloc hB.size _).trans (hB2.mono (by have := hB.size; simp; omega))
  have hz3 := hB.size
  have hlt : w1.heap.size < w2.heap.size := by omega
  have hne : ¬ w1.heap.size = w2.heap.size := by omega
  clear hB hB2 hc h1 h2
  go_wp2_with fail
  refine (eqFr_same x y _).mono ?_
  rintro e w3 ⟨rfl, hB4⟩
  have hB5 : Below w.heap.size w w3 := (hB3.alloc (by omega) _).trans (hB4.mono (by simp; omega))
  clear hB3 hB4
  go_wp2
  go_ret
  exact ⟨rfl, hB5⟩
end Go.Proofs.Ythokpdhknohpoaa
