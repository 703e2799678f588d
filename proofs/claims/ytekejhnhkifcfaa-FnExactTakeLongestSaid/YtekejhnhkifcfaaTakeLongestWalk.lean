/-
  Proved here: the law on TakeLongest answers true, for all arguments; no condition.
-/
import Derived.Test.YtekejhnhkifcfaaTake
import Derived.Test.YtekejhnhkifcfaaEqHeap
namespace Go.Proofs.Ytekejhnhkifcfaa
open Go.RowKit

set_option linter.unusedVariables false in
set_option maxHeartbeats 4000000 in
theorem takeLongest_walk {H : Type} {enc : TypeId × Value → H} (w : World) (base : Nat)
    (v0 : Value) (d0 : DataW H) (p0 : List MemPlace) (o0 : Value.okWide Try.prog w .any base 22 v0) (k0 : DataW.Trod enc Try.prog w 0 (fun _ => true) true 22 v0 d0 p0)
    (v1 : Value) (d1 : DataW H) (p1 : List MemPlace) (o1 : Value.okWide Try.prog w .any base 2 v1) (k1 : DataW.Trod enc Try.prog w 0 (fun _ => true) true 2 v1 d1 p1) :
    Calls Try.prog 5 #[v0, v1] w fun e w' => e = .returned (.bool true) ∧ Below w.heap.size w w' := by
  obtain ⟨x0, x1, x2, x3, x4, x5, x6, x7, rfl, h0, h1, h2, h3, h4, h5, h6, h7⟩ := open8 o0
  obtain ⟨g, rfl, hg⟩ := open_one Try.underlying2 o1
  clear o0 k0 o1 k1 hg
  have hbx := bd32_z8 h0 h1 h2 h3 h4 h5 h6 h7
  clear h0 h1 h2 h3 h4 h5 h6 h7
  obtain ⟨r0, r1, r2, r3, r4, r5, r6, r7, s0, s1, s2, s3, s4, s5, s6, s7, c, hs, hi⟩ : ∃ r0 r1 r2 r3 r4 r5 r6 r7 s0 s1 s2 s3 s4 s5 s6 s7 c : Int, (∀ wx, Calls Try.prog 19 #[.agg #[.int .i32 x0, .int .i32 x1, .int .i32 x2, .int .i32 x3, .int .i32 x4, .int .i32 x5, .int .i32 x6, .int .i32 x7], .int .i64 g] wx fun e w' => e = .returned (.tuple #[.agg #[.int .i32 r0, .int .i32 r1, .int .i32 r2, .int .i32 r3, .int .i32 r4, .int .i32 r5, .int .i32 r6, .int .i32 r7], .agg #[.int .i32 s0, .int .i32 s1, .int .i32 s2, .int .i32 s3, .int .i32 s4, .int .i32 s5, .int .i32 s6, .int .i32 s7], .int .i64 c]) ∧ Below wx.heap.size wx w') ∧
      (∀ wx, Calls Try.prog 20 #[.agg #[.int .i32 x0, .int .i32 x1, .int .i32 x2, .int .i32 x3, .int .i32 x4, .int .i32 x5, .int .i32 x6, .int .i32 x7], .int .i64 g] wx fun e w' => e = .returned (.tuple #[.agg #[.int .i32 r0, .int .i32 r1, .int .i32 r2, .int .i32 r3, .int .i32 r4, .int .i32 r5, .int .i32 r6, .int .i32 r7], .agg #[.int .i32 s0, .int .i32 s1, .int .i32 s2, .int .i32 s3, .int .i32 s4, .int .i32 s5, .int .i32 s6, .int .i32 s7], .int .i64 c]) ∧ Below wx.heap.size wx w') := by
    obtain ⟨F, hF⟩ : ∃ F, F = takeF (z8 x0 x1 x2 x3 x4 x5 x6 x7) g := ⟨_, rfl⟩
    refine ⟨F.1 0, F.1 1, F.1 2, F.1 3, F.1 4, F.1 5, F.1 6, F.1 7, F.2.1 0, F.2.1 1, F.2.1 2, F.2.1 3, F.2.1 4, F.2.1 5, F.2.1 6, F.2.1 7, F.2.2, fun wx => ?_, fun wx => ?_⟩
    · rw [hF]
      exact specTake_any x0 x1 x2 x3 x4 x5 x6 x7 g wx hbx
    · rw [hF]
      by_cases h : okH (z8 x0 x1 x2 x3 x4 x5 x6 x7) = true ∧ 0 ≤ g ∧ g ≤ sumTo (z8 x0 x1 x2 x3 x4 x5 x6 x7) 8
      · exact implTake_yes x0 x1 x2 x3 x4 x5 x6 x7 g wx hbx h.1 h.2.1 h.2.2
      · exact implTake_no x0 x1 x2 x3 x4 x5 x6 x7 g wx hbx h
  have H1 := Lib.hid hs
  have H2 := Lib.hid hi
  clear hs hi hbx
  have hne : (c != c) = false := by simp
  go_enter Try.func5, Try.ntmps5
  go_wp2_with fail
  refine (toHeap_any x0 x1 x2 x3 x4 x5 x6 x7 _).mono ?_
  rintro e w1 ⟨rfl, hB⟩
  have hz1 := hB.size
  simp only [World.size_alloc] at hz1
  have hB1 : Below w.heap.size w w1 := ((Below.refl _ _).alloc (Nat.le_refl _) _).trans (hB.mono (by simp))
  have hK1 := hB.mono (B' := w.heap.size + 1) (by simp)
  clear hB
  go_wp2_with fail
  refine (H1.out _).mono ?_
  rintro e w2 ⟨rfl, hB⟩
  have hz2 := hB.size
  have hB2 : Below w.heap.size w w2 := hB1.trans (hB.mono hB1.size)
  obtain ⟨hc0, hcz0⟩ := cellsKept (hK1.trans (hB.mono hz1)) w.heap.size (by omega)
  have hl0 : w.heap.size < w2.heap.size := by omega
  have hl0' : ¬ w.heap.size = w2.heap.size := by omega
  have hl0'' : ¬ w.heap.size = w2.heap.size + 1 := by omega
  clear hB hK1 hB1
  go_wp2_with fail
  refine (toHeap_any x0 x1 x2 x3 x4 x5 x6 x7 _).mono ?_
  rintro e w3 ⟨rfl, hB⟩
  have hz3 := hB.size
  simp only [World.size_alloc] at hz3
  have hB3 : Below w.heap.size w w3 := ((hB2.alloc (by omega) _).alloc (by simp; omega) _).trans (hB.mono (by simp; omega))
  have hK3 := hB.mono (B' := w2.heap.size + 2) (by simp)
  clear hB hc0 hcz0
  go_wp2_with fail
  refine (H2.out _).mono ?_
  rintro e w4 ⟨rfl, hB⟩
  have hz4 := hB.size
  have hB4 : Below w.heap.size w w4 := hB3.trans (hB.mono (by omega))
  obtain ⟨hc0, hcz0⟩ := cellsKept (hK3.trans (hB.mono hz3)) w2.heap.size (by omega)
  obtain ⟨hc1, hcz1⟩ := cellsKept (hK3.trans (hB.mono hz3)) (w2.heap.size + 1) (by omega)
  have hm0 : w2.heap.size < w4.heap.size := by omega
  have hm1 : w2.heap.size + 1 < w4.heap.size := by omega
  have hm0' : ¬ w2.heap.size = w4.heap.size := by omega
  have hm1' : ¬ w2.heap.size + 1 = w4.heap.size := by omega
  have hm2' : ¬ w2.heap.size = w4.heap.size + 1 := by omega
  clear hB hK3 hB3 hB2
  go_wp2_with fail
  refine (eqHeap_same r0 r1 r2 r3 r4 r5 r6 r7 _).mono ?_
  rintro e w5 ⟨rfl, hB⟩
  have hz5 := hB.size
  simp only [World.size_alloc] at hz5
  have hB5 : Below w.heap.size w w5 := ((hB4.alloc (by omega) _).alloc (by simp; omega) _).trans (hB.mono (by simp; omega))
  have hk0 : ∀ o : Nat, w5.cell? ⟨w2.heap.size + 1, o, none⟩ = (((w4.alloc (.cells #[.int .i32 r0, .int .i32 r1, .int .i32 r2, .int .i32 r3, .int .i32 r4, .int .i32 r5, .int .i32 r6, .int .i32 r7] 23)).alloc (.cells #[.int .i32 s0, .int .i32 s1, .int .i32 s2, .int .i32 s3, .int .i32 s4, .int .i32 s5, .int .i32 s6, .int .i32 s7] 23)).cell? ⟨w2.heap.size + 1, o, none⟩) := (cellsKept hB (w2.heap.size + 1) (by simp only [World.size_alloc]; omega)).1
  have hk1 : ∀ o : Nat, w5.cell? ⟨w4.heap.size + 1, o, none⟩ = (((w4.alloc (.cells #[.int .i32 r0, .int .i32 r1, .int .i32 r2, .int .i32 r3, .int .i32 r4, .int .i32 r5, .int .i32 r6, .int .i32 r7] 23)).alloc (.cells #[.int .i32 s0, .int .i32 s1, .int .i32 s2, .int .i32 s3, .int .i32 s4, .int .i32 s5, .int .i32 s6, .int .i32 s7] 23)).cell? ⟨w4.heap.size + 1, o, none⟩) := (cellsKept hB (w4.heap.size + 1) (by simp only [World.size_alloc]; omega)).1
  clear hB hB4
  go_wp2_with fail
  refine (eqHeap_same s0 s1 s2 s3 s4 s5 s6 s7 _).mono ?_
  rintro e w6 ⟨rfl, hB⟩
  have hB6 : Below w.heap.size w w6 := hB5.trans (hB.mono hB5.size)
  clear hB hB5
  go_wp2
  go_ret
  exact ⟨rfl, hB6⟩
end Go.Proofs.Ytekejhnhkifcfaa
