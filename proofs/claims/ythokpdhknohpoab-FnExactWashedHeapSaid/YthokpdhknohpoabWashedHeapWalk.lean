/-
  Proved here: the law on WashedHeap answers true, for all arguments; no condition.
-/
import Derived.Test.YthokpdhknohpoabWashed
import Derived.Test.YthokpdhknohpoabEqHeap
namespace Go.Proofs.Ythokpdhknohpoab
open Go.RowKit

set_option maxHeartbeats 1000000 in
theorem implWashed_no (x0 x1 x2 x3 x4 x5 x6 x7 p c : Int) (hc : askC (okH (z8 x0 x1 x2 x3 x4 x5 x6 x7)) (inB p 0 100) = c) (h0 : c ≠ 0) (w : World) :
    Calls Try.prog 13 #[.agg #[.int .i32 x0, .int .i32 x1, .int .i32 x2, .int .i32 x3, .int .i32 x4, .int .i32 x5, .int .i32 x6, .int .i32 x7], .int .i64 p] w fun e w' => e = .returned (.tuple #[.agg #[.int .i32 0, .int .i32 0, .int .i32 0, .int .i32 0, .int .i32 0, .int .i32 0, .int .i32 0, .int .i32 0], .int .i64 c]) ∧ Below w.heap.size w w' := by
  have hv := fun wx => validHeap_exact x0 x1 x2 x3 x4 x5 x6 x7 wx
  generalize okH (z8 x0 x1 x2 x3 x4 x5 x6 x7) = ok at *
  cases ok with
  | false =>
    have hc1 : (1 : Int) = c := by rw [← hc]; rfl
    subst hc1
    clear hc h0
    have HV := Lib.hid hv
    clear hv
    go_enter Try.func13, Try.ntmps13
    go_wp2_with fail
    refine (HV.out _).mono ?_
    rintro e w' ⟨rfl, rfl⟩
    go_wp2
    go_returns
    exact ⟨rfl, by go_grown⟩
  | true =>
    have HV := Lib.hid hv
    clear hv
    cases hf : inB p 0 100 with
    | true =>
      rw [hf] at hc
      exact absurd hc.symm h0
    | false =>
      rw [hf] at hc
      have hc1 : (2 : Int) = c := by rw [← hc]; rfl
      subst hc1
      have hn := inB_no hf
      clear hc h0 hf
      by_cases p1 : p < 0
      · go_enter Try.func13, Try.ntmps13
        go_wp2_with fail
        refine (HV.out _).mono ?_
        rintro e w' ⟨rfl, rfl⟩
        go_wp2
        go_returns
        exact ⟨rfl, by go_grown⟩
      · have p2 : 100 < p := by omega
        clear hn
        go_enter Try.func13, Try.ntmps13
        go_wp2_with fail
        refine (HV.out _).mono ?_
        rintro e w' ⟨rfl, rfl⟩
        go_wp2
        go_returns
        exact ⟨rfl, by go_grown⟩

theorem heapAt2 (w : World) (x0 x1 x2 x3 x4 x5 x6 x7 : Int) (t : TypeId) (o1 : Obj) : HeapAt ((w.alloc (.cells #[.int .i32 x0, .int .i32 x1, .int .i32 x2, .int .i32 x3, .int .i32 x4, .int .i32 x5, .int .i32 x6, .int .i32 x7] t)).alloc o1) w.heap.size 0 (z8 x0 x1 x2 x3 x4 x5 x6 x7) :=
  (heapAt_alloc w x0 x1 x2 x3 x4 x5 x6 x7 t).below ((Below.refl (w.heap.size + 1) _).alloc (by simp) o1) (by omega)

set_option maxHeartbeats 1000000 in
theorem specWashed_no (x0 x1 x2 x3 x4 x5 x6 x7 p c : Int) (hb : bd32 (z8 x0 x1 x2 x3 x4 x5 x6 x7)) (hc : askC (okH (z8 x0 x1 x2 x3 x4 x5 x6 x7)) (inB p 0 100) = c) (h0 : c ≠ 0) (w : World) :
    Calls Try.prog 11 #[.agg #[.int .i32 x0, .int .i32 x1, .int .i32 x2, .int .i32 x3, .int .i32 x4, .int .i32 x5, .int .i32 x6, .int .i32 x7], .int .i64 p] w fun e w' => e = .returned (.tuple #[.agg #[.int .i32 0, .int .i32 0, .int .i32 0, .int .i32 0, .int .i32 0, .int .i32 0, .int .i32 0, .int .i32 0], .int .i64 c]) ∧ Below w.heap.size w w' := by
  have ha := asked_any (z8 x0 x1 x2 x3 x4 x5 x6 x7) w.heap.size 0 (inB p 0 100) _ (heapAt2 w x0 x1 x2 x3 x4 x5 x6 x7 23 (.cells #[.int .i32 0, .int .i32 0, .int .i32 0, .int .i32 0, .int .i32 0, .int .i32 0, .int .i32 0, .int .i32 0] 23)) hb
  rw [hc] at ha
  have hne : (c != 0) = true := by rw [bne_iff_ne]; exact h0
  have HA := Lib.hid ha
  clear ha hc hb h0
  obtain ⟨fine, hfi⟩ : ∃ fine, inB p 0 100 = fine := ⟨_, rfl⟩
  rw [hfi] at HA
  have HF := Lib.hid hfi
  clear hfi
  go_enter Try.func11, Try.ntmps11
  go_wp2_with fail
  refine (in_any _ _ _ _).mono ?_
  rintro e w' ⟨rfl, rfl⟩
  rw [HF.out]
  go_wp2_with fail
  refine HA.out.mono ?_
  rintro e w' ⟨rfl, rfl⟩
  go_wp2
  go_returns
  exact ⟨rfl, by go_grown⟩

set_option maxHeartbeats 2000000 in
theorem specWashed_yes (x0 x1 x2 x3 x4 x5 x6 x7 p : Int) (hok : okH (z8 x0 x1 x2 x3 x4 x5 x6 x7) = true) (h0 : 0 ≤ p) (h1 : p ≤ 100) (w : World) :
    Calls Try.prog 11 #[.agg #[.int .i32 x0, .int .i32 x1, .int .i32 x2, .int .i32 x3, .int .i32 x4, .int .i32 x5, .int .i32 x6, .int .i32 x7], .int .i64 p] w fun e w' => e = .returned (.tuple #[.agg #[.int .i32 (x0 * (100 - p) / 100), .int .i32 (x1 * (100 - p) / 100), .int .i32 (x2 * (100 - p) / 100), .int .i32 (x3 * (100 - p) / 100), .int .i32 (x4 * (100 - p) / 100), .int .i32 (x5 * (100 - p) / 100), .int .i32 (x6 * (100 - p) / 100), .int .i32 (x7 * (100 - p) / 100)], .int .i64 0]) ∧ Below w.heap.size w w' := by
  have bx := ok8_of hok
  have hbx : bd32 (z8 x0 x1 x2 x3 x4 x5 x6 x7) := bd32_z8 (by unfold in32; omega) (by unfold in32; omega) (by unfold in32; omega) (by unfold in32; omega) (by unfold in32; omega) (by unfold in32; omega) (by unfold in32; omega) (by unfold in32; omega)
  have m0 := wash_bd (p := p) bx.1 h0 h1
  have m1 := wash_bd (p := p) bx.2.1 h0 h1
  have m2 := wash_bd (p := p) bx.2.2.1 h0 h1
  have m3 := wash_bd (p := p) bx.2.2.2.1 h0 h1
  have m4 := wash_bd (p := p) bx.2.2.2.2.1 h0 h1
  have m5 := wash_bd (p := p) bx.2.2.2.2.2.1 h0 h1
  have m6 := wash_bd (p := p) bx.2.2.2.2.2.2.1 h0 h1
  have m7 := wash_bd (p := p) bx.2.2.2.2.2.2.2 h0 h1
  have ha := asked_any (z8 x0 x1 x2 x3 x4 x5 x6 x7) w.heap.size 0 (inB p 0 100) _ (heapAt2 w x0 x1 x2 x3 x4 x5 x6 x7 23 (.cells #[.int .i32 0, .int .i32 0, .int .i32 0, .int .i32 0, .int .i32 0, .int .i32 0, .int .i32 0, .int .i32 0] 23)) hbx
  rw [hok, inB_mk ⟨h0, h1⟩] at ha
  have hi := Lib.hid (inB_mk (n := p) (lo := 0) (hi := 100) ⟨h0, h1⟩)
  have HA := Lib.hid ha
  clear ha hok hbx
  go_enter Try.func11, Try.ntmps11
  go_wp2_with fail
  refine (in_any _ _ _ _).mono ?_
  rintro e w' ⟨rfl, rfl⟩
  rw [hi.out]
  go_wp2_with fail
  refine HA.out.mono ?_
  rintro e w' ⟨rfl, rfl⟩
  go_wp2
  go_rounds 9
  go_returns
  exact ⟨rfl, by go_grown⟩

set_option linter.unusedVariables false in
set_option maxRecDepth 100000 in
set_option maxHeartbeats 4000000 in
theorem washedHeap_walk {H : Type} {enc : TypeId × Value → H} (w : World) (base : Nat)
    (v0 : Value) (d0 : DataW H) (p0 : List MemPlace) (o0 : Value.okWide Try.prog w .any base 22 v0) (k0 : DataW.Trod enc Try.prog w 0 (fun _ => true) true 22 v0 d0 p0)
    (v1 : Value) (d1 : DataW H) (p1 : List MemPlace) (o1 : Value.okWide Try.prog w .any base 2 v1) (k1 : DataW.Trod enc Try.prog w 0 (fun _ => true) true 2 v1 d1 p1) :
    Calls Try.prog 3 #[v0, v1] w fun e w' => e = .returned (.bool true) ∧ Below w.heap.size w w' := by
  obtain ⟨x0, x1, x2, x3, x4, x5, x6, x7, rfl, h0, h1, h2, h3, h4, h5, h6, h7⟩ := open8 o0
  obtain ⟨p, rfl, hp⟩ := open_one Try.underlying2 o1
  clear o0 k0 o1 k1 hp
  have hbx := bd32_z8 h0 h1 h2 h3 h4 h5 h6 h7
  clear h0 h1 h2 h3 h4 h5 h6 h7
  obtain ⟨r0, r1, r2, r3, r4, r5, r6, r7, c, hs, hi⟩ : ∃ r0 r1 r2 r3 r4 r5 r6 r7 c : Int, (∀ wx, Calls Try.prog 11 #[.agg #[.int .i32 x0, .int .i32 x1, .int .i32 x2, .int .i32 x3, .int .i32 x4, .int .i32 x5, .int .i32 x6, .int .i32 x7], .int .i64 p] wx fun e w' => e = .returned (.tuple #[.agg #[.int .i32 r0, .int .i32 r1, .int .i32 r2, .int .i32 r3, .int .i32 r4, .int .i32 r5, .int .i32 r6, .int .i32 r7], .int .i64 c]) ∧ Below wx.heap.size wx w') ∧
      (∀ wx, Calls Try.prog 13 #[.agg #[.int .i32 x0, .int .i32 x1, .int .i32 x2, .int .i32 x3, .int .i32 x4, .int .i32 x5, .int .i32 x6, .int .i32 x7], .int .i64 p] wx fun e w' => e = .returned (.tuple #[.agg #[.int .i32 r0, .int .i32 r1, .int .i32 r2, .int .i32 r3, .int .i32 r4, .int .i32 r5, .int .i32 r6, .int .i32 r7], .int .i64 c]) ∧ Below wx.heap.size wx w') := by
    by_cases hc : askC (okH (z8 x0 x1 x2 x3 x4 x5 x6 x7)) (inB p 0 100) = 0
    · have hok : okH (z8 x0 x1 x2 x3 x4 x5 x6 x7) = true := by
        cases h : okH (z8 x0 x1 x2 x3 x4 x5 x6 x7) with
        | true => rfl
        | false => rw [h] at hc; simp [askC] at hc
      have hf : inB p 0 100 = true := by
        cases h : inB p 0 100 with
        | true => rfl
        | false => rw [h, hok] at hc; simp [askC] at hc
      have q := inB_of hf
      exact ⟨_, _, _, _, _, _, _, _, 0, fun wx => specWashed_yes x0 x1 x2 x3 x4 x5 x6 x7 p hok q.1 q.2 wx, fun wx => implWashed_yes x0 x1 x2 x3 x4 x5 x6 x7 p hok q.1 q.2 wx⟩
    · exact ⟨0, 0, 0, 0, 0, 0, 0, 0, _, fun wx => specWashed_no x0 x1 x2 x3 x4 x5 x6 x7 p _ hbx rfl hc wx, fun wx => implWashed_no x0 x1 x2 x3 x4 x5 x6 x7 p _ rfl hc wx⟩
  have H1 := Lib.hid hs
  have H2 := Lib.hid hi
  clear hs hi hbx
  have hne : (c != c) = false := by simp
  go_enter Try.func3, Try.ntmps3
  go_wp2_with fail
  refine (toHeap_any x0 x1 x2 x3 x4 x5 x6 x7 _).mono ?_
  rintro e w1 ⟨rfl, hB⟩
  have hz1 := hB.size
  simp only [World.size_alloc] at hz1
  have hB1 : Below w.heap.size w w1 := ((Below.refl _ _).alloc (Nat.le_refl _) _).trans (hB.mono (by simp))
  have hK1 := hB.mono (B' := w.heap.size + 1) (by simp)
  clear hB
  go_wp2_with fail
  refine (H1.out _).mono ?_
  rintro e w2 ⟨rfl, hB⟩
  have hz2 := hB.size
  have hB2 : Below w.heap.size w w2 := hB1.trans (hB.mono hB1.size)
  obtain ⟨hc0, hcz0⟩ := cellsKept (hK1.trans (hB.mono hz1)) w.heap.size (by omega)
  have hl0 : w.heap.size < w2.heap.size := by omega
  have hl0' : ¬ w.heap.size = w2.heap.size := by omega
  clear hB hK1 hB1
  go_wp2_with fail
  refine (toHeap_any x0 x1 x2 x3 x4 x5 x6 x7 _).mono ?_
  rintro e w3 ⟨rfl, hB⟩
  have hz3 := hB.size
  simp only [World.size_alloc] at hz3
  have hB3 : Below w.heap.size w w3 := (hB2.alloc (by omega) _).trans (hB.mono (by simp; omega))
  have hK3 := hB.mono (B' := w2.heap.size + 1) (by simp)
  clear hB hc0 hcz0
  go_wp2_with fail
  refine (H2.out _).mono ?_
  rintro e w4 ⟨rfl, hB⟩
  have hz4 := hB.size
  have hB4 : Below w.heap.size w w4 := hB3.trans (hB.mono (by omega))
  obtain ⟨hc0, hcz0⟩ := cellsKept (hK3.trans (hB.mono hz3)) w2.heap.size (by omega)
  have hm0 : w2.heap.size < w4.heap.size := by omega
  have hm0' : ¬ w2.heap.size = w4.heap.size := by omega
  clear hB hK3 hB3 hB2
  go_wp2_with fail
  refine (eqHeap_same r0 r1 r2 r3 r4 r5 r6 r7 _).mono ?_
  rintro e w5 ⟨rfl, hB⟩
  have hB5 : Below w.heap.size w w5 := (hB4.alloc (by omega) _).trans (hB.mono (by simp; omega))
  clear hB hB4
  go_wp2
  go_ret
  exact ⟨rfl, hB5⟩
end Go.Proofs.Ythokpdhknohpoab
