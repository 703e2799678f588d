/-
  Proved here: the law on SortOut answers true, for all arguments; no condition.
-/
import Derived.Test.YthokpdhknohpoaaSortS0
import Derived.Test.YthokpdhknohpoaaSortS1
import Derived.Test.YthokpdhknohpoaaSortI0
import Derived.Test.YthokpdhknohpoaaSortI1
import Derived.Test.YthokpdhknohpoaaEqHeap
namespace Go.Proofs.Ythokpdhknohpoaa
open Go.RowKit

set_option linter.unusedVariables false in
set_option maxHeartbeats 4000000 in
theorem sortOut_walk {H : Type} {enc : TypeId × Value → H} (w : World) (base : Nat)
    (v0 : Value) (d0 : DataW H) (p0 : List MemPlace) (o0 : Value.okWide Try.prog w .any base 33 v0) (k0 : DataW.Trod enc Try.prog w 0 (fun _ => true) true 33 v0 d0 p0)
    (v1 : Value) (d1 : DataW H) (p1 : List MemPlace) (o1 : Value.okWide Try.prog w .any base 2 v1) (k1 : DataW.Trod enc Try.prog w 0 (fun _ => true) true 2 v1 d1 p1)
    (v2 : Value) (d2 : DataW H) (p2 : List MemPlace) (o2 : Value.okWide Try.prog w .any base 2 v2) (k2 : DataW.Trod enc Try.prog w 0 (fun _ => true) true 2 v2 d2 p2) :
    Calls Try.prog 10 #[v0, v1, v2] w fun e w' => e = .returned (.bool true) ∧ Below w.heap.size w w' := by
  obtain ⟨x0, x1, x2, x3, x4, x5, x6, x7, rfl, h0, h1, h2, h3, h4, h5, h6, h7⟩ := open8 o0
  obtain ⟨low, rfl, hlow⟩ := open_one Try.underlying2 o1
  obtain ⟨high, rfl, hhigh⟩ := open_one Try.underlying2 o2
  clear o0 k0 o1 k1 o2 k2 hlow hhigh
  have hbx := bd32_z8 h0 h1 h2 h3 h4 h5 h6 h7
  clear h0 h1 h2 h3 h4 h5 h6 h7
  obtain ⟨r0, r1, r2, r3, r4, r5, r6, r7, s0, s1, s2, s3, s4, s5, s6, s7, c, hs, hi⟩ : ∃ r0 r1 r2 r3 r4 r5 r6 r7 s0 s1 s2 s3 s4 s5 s6 s7 c : Int, (∀ wx, Calls Try.prog 32 #[.agg #[.int .i32 x0, .int .i32 x1, .int .i32 x2, .int .i32 x3, .int .i32 x4, .int .i32 x5, .int .i32 x6, .int .i32 x7], .int .i64 low, .int .i64 high] wx fun e w' => e = .returned (.tuple #[.agg #[.int .i32 r0, .int .i32 r1, .int .i32 r2, .int .i32 r3, .int .i32 r4, .int .i32 r5, .int .i32 r6, .int .i32 r7], .agg #[.int .i32 s0, .int .i32 s1, .int .i32 s2, .int .i32 s3, .int .i32 s4, .int .i32 s5, .int .i32 s6, .int .i32 s7], .int .i64 c]) ∧ Below wx.heap.size wx w') ∧
      (∀ wx, Calls Try.prog 33 #[.agg #[.int .i32 x0, .int .i32 x1, .int .i32 x2, .int .i32 x3, .int .i32 x4, .int .i32 x5, .int .i32 x6, .int .i32 x7], .int .i64 low, .int .i64 high] wx fun e w' => e = .returned (.tuple #[.agg #[.int .i32 r0, .int .i32 r1, .int .i32 r2, .int .i32 r3, .int .i32 r4, .int .i32 r5, .int .i32 r6, .int .i32 r7], .agg #[.int .i32 s0, .int .i32 s1, .int .i32 s2, .int .i32 s3, .int .i32 s4, .int .i32 s5, .int .i32 s6, .int .i32 s7], .int .i64 c]) ∧ Below wx.heap.size wx w') := by
    by_cases hc : askC (okH (z8 x0 x1 x2 x3 x4 x5 x6 x7)) (fineS low high) = 0
    · have hok : okH (z8 x0 x1 x2 x3 x4 x5 x6 x7) = true := by
        cases h : okH (z8 x0 x1 x2 x3 x4 x5 x6 x7) with
        | true => rfl
        | false => rw [h] at hc; simp [askC] at hc
      have hf : fineS low high = true := by
        cases h : fineS low high with
        | true => rfl
        | false => rw [h, hok] at hc; simp [askC] at hc
      simp only [fineS, Bool.and_eq_true, decide_eq_true_eq] at hf
      have q1 := inB_of hf.1.1
      have q2 := inB_of hf.1.2
      have q3 := hf.2
      have hk : low = 0 ∨ low = 1 ∨ low = 2 ∨ low = 3 ∨ low = 4 ∨ low = 5 ∨ low = 6 ∨ low = 7 := by omega
      clear hf hc
      rcases hk with rfl | rfl | rfl | rfl | rfl | rfl | rfl | rfl
      · exact ⟨_, _, _, _, _, _, _, _, _, _, _, _, _, _, _, _, 0, fun wx => specSort_0 x0 x1 x2 x3 x4 x5 x6 x7 hbx hok wx high (by omega) (by omega), fun wx => implSort_0 x0 x1 x2 x3 x4 x5 x6 x7 hok wx high (by omega) (by omega)⟩
      · exact ⟨_, _, _, _, _, _, _, _, _, _, _, _, _, _, _, _, 0, fun wx => specSort_1 x0 x1 x2 x3 x4 x5 x6 x7 hbx hok wx high (by omega) (by omega), fun wx => implSort_1 x0 x1 x2 x3 x4 x5 x6 x7 hok wx high (by omega) (by omega)⟩
      · exact ⟨_, _, _, _, _, _, _, _, _, _, _, _, _, _, _, _, 0, fun wx => specSort_2 x0 x1 x2 x3 x4 x5 x6 x7 hbx hok wx high (by omega) (by omega), fun wx => implSort_2 x0 x1 x2 x3 x4 x5 x6 x7 hok wx high (by omega) (by omega)⟩
      · exact ⟨_, _, _, _, _, _, _, _, _, _, _, _, _, _, _, _, 0, fun wx => specSort_3 x0 x1 x2 x3 x4 x5 x6 x7 hbx hok wx high (by omega) (by omega), fun wx => implSort_3 x0 x1 x2 x3 x4 x5 x6 x7 hok wx high (by omega) (by omega)⟩
      · exact ⟨_, _, _, _, _, _, _, _, _, _, _, _, _, _, _, _, 0, fun wx => specSort_4 x0 x1 x2 x3 x4 x5 x6 x7 hbx hok wx high (by omega) (by omega), fun wx => implSort_4 x0 x1 x2 x3 x4 x5 x6 x7 hok wx high (by omega) (by omega)⟩
      · exact ⟨_, _, _, _, _, _, _, _, _, _, _, _, _, _, _, _, 0, fun wx => specSort_5 x0 x1 x2 x3 x4 x5 x6 x7 hbx hok wx high (by omega) (by omega), fun wx => implSort_5 x0 x1 x2 x3 x4 x5 x6 x7 hok wx high (by omega) (by omega)⟩
      · exact ⟨_, _, _, _, _, _, _, _, _, _, _, _, _, _, _, _, 0, fun wx => specSort_6 x0 x1 x2 x3 x4 x5 x6 x7 hbx hok wx high (by omega) (by omega), fun wx => implSort_6 x0 x1 x2 x3 x4 x5 x6 x7 hok wx high (by omega) (by omega)⟩
      · exact ⟨_, _, _, _, _, _, _, _, _, _, _, _, _, _, _, _, 0, fun wx => specSort_7 x0 x1 x2 x3 x4 x5 x6 x7 hbx hok wx high (by omega) (by omega), fun wx => implSort_7 x0 x1 x2 x3 x4 x5 x6 x7 hok wx high (by omega) (by omega)⟩
    · exact ⟨0, 0, 0, 0, 0, 0, 0, 0, 0, 0, 0, 0, 0, 0, 0, 0, _, fun wx => specSort_no x0 x1 x2 x3 x4 x5 x6 x7 low high _ hbx rfl hc wx, fun wx => implSort_no x0 x1 x2 x3 x4 x5 x6 x7 low high _ rfl hc wx⟩
  have H1 := Lib.hid hs
  have H2 := Lib.hid hi
  clear hs hi hbx
  have hne : (c != c) = false := by simp
  go_enter Try.func10, Try.ntmps10
  go_wp2_with fail
  refine (toHeap_any x0 x1 x2 x3 x4 x5 x6 x7 _).mono ?_
  rintro e w1 ⟨rfl, hB⟩
  have hz1 := hB.size
  simp only [World.size_alloc] at hz1
  have hB1 : Below w.heap.size w w1 := ((Below.refl _ _).alloc (Nat.le_refl _) _).trans (hB.mono (by simp))
  have hK1 := hB.mono (B' := w.heap.size + 1) (by simp)
  clear hB
  go_wp2_with fail
  refine (H1.out _).mono ?_
  rintro e w2 ⟨rfl, hB⟩
  have hz2 := hB.size
  have hB2 : Below w.heap.size w w2 := hB1.trans (hB.mono hB1.size)
  obtain ⟨hc0, hcz0⟩ := cellsKept (hK1.trans (hB.mono hz1)) w.heap.size (by omega)
  have hl0 : w.heap.size < w2.heap.size := by omega
  have hl0' : ¬ w.heap.size = w2.heap.size := by omega
  have hl0'' : ¬ w.heap.size = w2.heap.size + 1 := by omega
  clear hB hK1 hB1
  go_wp2_with fail
  refine (toHeap_any x0 x1 x2 x3 x4 x5 x6 x7 _).mono ?_
  rintro e w3 ⟨rfl, hB⟩
  have hz3 := hB.size
  simp only [World.size_alloc] at hz3
  have hB3 : Below w.heap.size w w3 := ((hB2.alloc (by omega) _).alloc (by simp; omega) _).trans (hB.mono (by simp; omega))
  have hK3 := hB.mono (B' := w2.heap.size + 2) (by simp)
  clear hB hc0 hcz0
  go_wp2_with fail
  refine (H2.out _).mono ?_
  rintro e w4 ⟨rfl, hB⟩
  have hz4 := hB.size
  have hB4 : Below w.heap.size w w4 := hB3.trans (hB.mono (by omega))
  obtain ⟨hc0, hcz0⟩ := cellsKept (hK3.trans (hB.mono hz3)) w2.heap.size (by omega)
  obtain ⟨hc1, hcz1⟩ := cellsKept (hK3.trans (hB.mono hz3)) (w2.heap.size + 1) (by omega)
  have hm0 : w2.heap.size < w4.heap.size := by omega
  have hm1 : w2.heap.size + 1 < w4.heap.size := by omega
  have hm0' : ¬ w2.heap.size = w4.heap.size := by omega
  have hm1' : ¬ w2.heap.size + 1 = w4.heap.size := by omega
  have hm2' : ¬ w2.heap.size = w4.heap.size + 1 := by omega
  clear hB hK3 hB3 hB2
  go_wp2_with fail
  refine (eqHeap_same r0 r1 r2 r3 r4 r5 r6 r7 _).mono ?_
  rintro e w5 ⟨rfl, hB⟩
  have hz5 := hB.size
  simp only [World.size_alloc] at hz5
  have hB5 : Below w.heap.size w w5 := ((hB4.alloc (by omega) _).alloc (by simp; omega) _).trans (hB.mono (by simp; omega))
  have hk0 : ∀ o : Nat, w5.cell? ⟨w2.heap.size + 1, o, none⟩ = (((w4.alloc (.cells #[.int .i32 r0, .int .i32 r1, .int .i32 r2, .int .i32 r3, .int .i32 r4, .int .i32 r5, .int .i32 r6, .int .i32 r7] 35)).alloc (.cells #[.int .i32 s0, .int .i32 s1, .int .i32 s2, .int .i32 s3, .int .i32 s4, .int .i32 s5, .int .i32 s6, .int .i32 s7] 35)).cell? ⟨w2.heap.size + 1, o, none⟩) := (cellsKept hB (w2.heap.size + 1) (by simp only [World.size_alloc]; omega)).1
  have hk1 : ∀ o : Nat, w5.cell? ⟨w4.heap.size + 1, o, none⟩ = (((w4.alloc (.cells #[.int .i32 r0, .int .i32 r1, .int .i32 r2, .int .i32 r3, .int .i32 r4, .int .i32 r5, .int .i32 r6, .int .i32 r7] 35)).alloc (.cells #[.int .i32 s0, .int .i32 s1, .int .i32 s2, .int .i32 s3, .int .i32 s4, .int .i32 s5, .int .i32 s6, .int .i32 s7] 35)).cell? ⟨w4.heap.size + 1, o, none⟩) := (cellsKept hB (w4.heap.size + 1) (by simp only [World.size_alloc]; omega)).1
  clear hB hB4
  go_wp2_with fail
  refine (eqHeap_same s0 s1 s2 s3 s4 s5 s6 s7 _).mono ?_
  rintro e w6 ⟨rfl, hB⟩
  have hB6 : Below w.heap.size w w6 := hB5.trans (hB.mono hB5.size)
  clear hB hB5
  go_wp2
  go_ret
  exact ⟨rfl, hB6⟩
end Go.Proofs.Ythokpdhknohpoaa
