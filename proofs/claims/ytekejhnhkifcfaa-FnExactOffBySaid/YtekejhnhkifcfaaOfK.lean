/-
  No statement is proved here: OffBy in the program, whole; no condition.
-/
import Derived.Test.YtekejhnhkifcfaaOfI
namespace Go.Proofs.Ytekejhnhkifcfaa
open Go.RowKit

/-- Two heaps side by side. -/
def two (a b : Nat → Int) (i : Nat) : Nat → Int := if i = 0 then a else b
theorem two_lc (a b : Nat → Int) : lcTo (sumH (two a b)) 1 = sumTo a 8 ∧ lcTo (sumH (two a b)) 2 = sumTo a 8 / (Int.gcd (sumTo a 8) (sumTo b 8) : Int) * sumTo b 8 := by
  have e1 : lcTo (sumH (two a b)) 1 = sumTo a 8 := by
    simp only [lcTo, sumH, two, if_true]
    rw [Int.one_gcd]
    simp
  refine ⟨e1, ?_⟩
  rw [lcTo_succ, e1]
  rfl
theorem two_ok {a b : Nat → Int} (ha : 0 < sumTo a 8 ∧ sumTo a 8 ≤ 8000) (hb : 0 < sumTo b 8 ∧ sumTo b 8 ≤ 8000) : LcOk (sumH (two a b)) 2 :=
  LcOk.of (c := 8000) (fun i hi => by
    have : i = 0 ∨ i = 1 := by omega
    rcases this with rfl | rfl
    · exact ha
    · exact hb) (by omega) (by omega) (by omega)
theorem two_num {a b : Nat → Int} (ha : 0 < sumTo a 8) (hb : 0 < sumTo b 8) :
    (∀ k, a k * sumTo b 8 = (Int.gcd (sumTo a 8) (sumTo b 8) : Int) * numR (two a b) 2 0 k) ∧ (∀ k, b k * sumTo a 8 = (Int.gcd (sumTo a 8) (sumTo b 8) : Int) * numR (two a b) 2 1 k) ∧
      sumTo a 8 * sumTo b 8 = (Int.gcd (sumTo a 8) (sumTo b 8) : Int) * lcTo (sumH (two a b)) 2 := by
  have hg := gcd_pos_right (n := sumTo a 8) (d := sumTo b 8) (by omega)
  obtain ⟨c, hc⟩ := Int.gcd_dvd_left (a := sumTo a 8) (b := sumTo b 8)
  obtain ⟨d, hd⟩ := Int.gcd_dvd_right (a := sumTo a 8) (b := sumTo b 8)
  have hL := (two_lc a b).2
  have e0 : sumH (two a b) 0 = sumTo a 8 := rfl
  have e1 : sumH (two a b) 1 = sumTo b 8 := rfl
  unfold numR
  rw [hL, e0, e1]
  have t0 : two a b 0 = a := rfl
  have t1 : two a b 1 = b := rfl
  rw [t0, t1]
  generalize sumTo a 8 = p at *
  generalize sumTo b 8 = q at *
  generalize (Int.gcd p q : Int) = g at *
  have q1 : p / g = c := Int.ediv_eq_of_eq_mul_right (by omega) hc
  rw [q1]
  have q2 : c * q / p = d := by
    refine Int.ediv_eq_of_eq_mul_right (by omega) ?_
    rw [hd, hc, ← Int.mul_assoc, Int.mul_comm c g]
  have q3 : c * q / q = c := Int.mul_ediv_cancel _ (by omega)
  rw [q2, q3]
  refine ⟨fun k => ?_, fun k => ?_, ?_⟩
  · rw [hd, ← Int.mul_assoc, ← Int.mul_assoc, Int.mul_comm (a k) g]
  · rw [hc, ← Int.mul_assoc, ← Int.mul_assoc, Int.mul_comm (b k) g]
  · rw [← Int.mul_assoc, ← hc]
theorem two_low {a b : Nat → Int} (ha : 0 < sumTo a 8 ∧ sumTo a 8 ≤ 8000) (hb : 0 < sumTo b 8 ∧ sumTo b 8 ≤ 8000) :
    lowN (dsum (fun k => a k * sumTo b 8) (fun k => b k * sumTo a 8) 8) (sumTo a 8 * sumTo b 8) = lowN (dsum (numR (two a b) 2 0) (numR (two a b) 2 1) 8) (lcTo (sumH (two a b)) 2) ∧
      lowD (dsum (fun k => a k * sumTo b 8) (fun k => b k * sumTo a 8) 8) (sumTo a 8 * sumTo b 8) = lowD (dsum (numR (two a b) 2 0) (numR (two a b) 2 1) 8) (lcTo (sumH (two a b)) 2) := by
  obtain ⟨h1, h2, h3⟩ := two_num ha.1 hb.1
  have hg := gcd_pos_right (n := sumTo a 8) (d := sumTo b 8) (by omega)
  have hl := (two_ok ha hb).2 2 (by omega)
  have e : dsum (fun k => a k * sumTo b 8) (fun k => b k * sumTo a 8) 8 = (Int.gcd (sumTo a 8) (sumTo b 8) : Int) * dsum (numR (two a b) 2 0) (numR (two a b) 2 1) 8 := by
    rw [← dsum_mul _ (by omega)]
    exact dsum_congr fun j _ => ⟨h1 j, h2 j⟩
  rw [e, h3]
  exact low_mul hg hl.1

theorem heaps_alloc (w : World) (x0 x1 x2 x3 x4 x5 x6 x7 y0 y1 y2 y3 y4 y5 y6 y7 : Int) (T : TypeId) : HeapsAt (w.alloc (.cells #[.int .i32 x0, .int .i32 x1, .int .i32 x2, .int .i32 x3, .int .i32 x4, .int .i32 x5, .int .i32 x6, .int .i32 x7, .int .i32 y0, .int .i32 y1, .int .i32 y2, .int .i32 y3, .int .i32 y4, .int .i32 y5, .int .i32 y6, .int .i32 y7] T)) w.heap.size 2 (two (z8 x0 x1 x2 x3 x4 x5 x6 x7) (z8 y0 y1 y2 y3 y4 y5 y6 y7)) := fun i hi k hk => by
  have : i = 0 ∨ i = 1 := by omega
  rcases this with rfl | rfl
  · rcases k with _ | _ | _ | _ | _ | _ | _ | _ | k
    all_goals first | (simp [go_sem, two, z8]; done) | omega
  · rcases k with _ | _ | _ | _ | _ | _ | _ | _ | k
    all_goals first | (simp [go_sem, two, z8]; done) | omega

set_option maxRecDepth 100000 in
set_option maxHeartbeats 8000000 in
theorem implOffC_yes (x0 x1 x2 x3 x4 x5 x6 x7 y0 y1 y2 y3 y4 y5 y6 y7 : Int) (ha : okH (z8 x0 x1 x2 x3 x4 x5 x6 x7) = true) (hb : okH (z8 y0 y1 y2 y3 y4 y5 y6 y7) = true) (hp : ¬ sumTo (z8 x0 x1 x2 x3 x4 x5 x6 x7) 8 = 0) (hq : ¬ sumTo (z8 y0 y1 y2 y3 y4 y5 y6 y7) 8 = 0) (b1 b2 : Nat) (w : World) (h1 : HeapAt w b1 0 (z8 x0 x1 x2 x3 x4 x5 x6 x7)) (h2 : HeapAt w b2 0 (z8 y0 y1 y2 y3 y4 y5 y6 y7)) :
    Calls Try.prog 56 #[.pointer (some ⟨b1, 0, none⟩), .pointer (some ⟨b2, 0, none⟩)] w fun e w' => e = .returned (.agg #[.int .i64 (offF (z8 x0 x1 x2 x3 x4 x5 x6 x7) (z8 y0 y1 y2 y3 y4 y5 y6 y7)).1, .int .i64 (offF (z8 x0 x1 x2 x3 x4 x5 x6 x7) (z8 y0 y1 y2 y3 y4 y5 y6 y7)).2.1]) ∧ Below w.heap.size w w' := by
  rw [offF_yes ha hb (by omega)]
  have p8 := sum8_bd ha
  have q8 := sum8_bd hb
  have hP : 0 < sumTo (z8 x0 x1 x2 x3 x4 x5 x6 x7) 8 ∧ sumTo (z8 x0 x1 x2 x3 x4 x5 x6 x7) 8 ≤ 8000 := by omega
  have hQ : 0 < sumTo (z8 y0 y1 y2 y3 y4 y5 y6 y7) 8 ∧ sumTo (z8 y0 y1 y2 y3 y4 y5 y6 y7) 8 ≤ 8000 := by omega
  rw [(two_low hP hQ).1, (two_low hP hQ).2]
  have l1 := h1.lt
  have l2 := h2.lt
  have c0 : w.cell? ⟨b1, 0, none⟩ = some (.int .i32 x0) := by have := h1 0 (by omega); rwa [Nat.zero_add] at this
  have c1 : w.cell? ⟨b1, 1, none⟩ = some (.int .i32 x1) := by have := h1 1 (by omega); rwa [Nat.zero_add] at this
  have c2 : w.cell? ⟨b1, 2, none⟩ = some (.int .i32 x2) := by have := h1 2 (by omega); rwa [Nat.zero_add] at this
  have c3 : w.cell? ⟨b1, 3, none⟩ = some (.int .i32 x3) := by have := h1 3 (by omega); rwa [Nat.zero_add] at this
  have c4 : w.cell? ⟨b1, 4, none⟩ = some (.int .i32 x4) := by have := h1 4 (by omega); rwa [Nat.zero_add] at this
  have c5 : w.cell? ⟨b1, 5, none⟩ = some (.int .i32 x5) := by have := h1 5 (by omega); rwa [Nat.zero_add] at this
  have c6 : w.cell? ⟨b1, 6, none⟩ = some (.int .i32 x6) := by have := h1 6 (by omega); rwa [Nat.zero_add] at this
  have c7 : w.cell? ⟨b1, 7, none⟩ = some (.int .i32 x7) := by have := h1 7 (by omega); rwa [Nat.zero_add] at this
  have e0 : w.cell? ⟨b2, 0, none⟩ = some (.int .i32 y0) := by have := h2 0 (by omega); rwa [Nat.zero_add] at this
  have e1 : w.cell? ⟨b2, 1, none⟩ = some (.int .i32 y1) := by have := h2 1 (by omega); rwa [Nat.zero_add] at this
  have e2 : w.cell? ⟨b2, 2, none⟩ = some (.int .i32 y2) := by have := h2 2 (by omega); rwa [Nat.zero_add] at this
  have e3 : w.cell? ⟨b2, 3, none⟩ = some (.int .i32 y3) := by have := h2 3 (by omega); rwa [Nat.zero_add] at this
  have e4 : w.cell? ⟨b2, 4, none⟩ = some (.int .i32 y4) := by have := h2 4 (by omega); rwa [Nat.zero_add] at this
  have e5 : w.cell? ⟨b2, 5, none⟩ = some (.int .i32 y5) := by have := h2 5 (by omega); rwa [Nat.zero_add] at this
  have e6 : w.cell? ⟨b2, 6, none⟩ = some (.int .i32 y6) := by have := h2 6 (by omega); rwa [Nat.zero_add] at this
  have e7 : w.cell? ⟨b2, 7, none⟩ = some (.int .i32 y7) := by have := h2 7 (by omega); rwa [Nat.zero_add] at this
  obtain ⟨W0, hW0⟩ : ∃ W0, W0 = (w.alloc (.cells #[.int .i64 0, .int .i64 0] 38)).alloc (.cells #[.int .i32 x0, .int .i32 x1, .int .i32 x2, .int .i32 x3, .int .i32 x4, .int .i32 x5, .int .i32 x6, .int .i32 x7, .int .i32 y0, .int .i32 y1, .int .i32 y2, .int .i32 y3, .int .i32 y4, .int .i32 y5, .int .i32 y6, .int .i32 y7] 23) := ⟨_, rfl⟩
  have hA : HeapsAt W0 (w.heap.size + 1) 2 (two (z8 x0 x1 x2 x3 x4 x5 x6 x7) (z8 y0 y1 y2 y3 y4 y5 y6 y7)) := by
    have := heaps_alloc (w.alloc (.cells #[.int .i64 0, .int .i64 0] 38)) x0 x1 x2 x3 x4 x5 x6 x7 y0 y1 y2 y3 y4 y5 y6 y7 23
    rw [World.size_alloc] at this
    rw [hW0]
    exact this
  have r0 : W0.cell? ⟨w.heap.size, 0, none⟩ = some (.int .i64 0) := by rw [hW0]; simp [go_sem]
  have r1 : W0.cell? ⟨w.heap.size, 1, none⟩ = some (.int .i64 0) := by rw [hW0]; simp [go_sem]
  have f0 : W0.frozen? ⟨w.heap.size, 0, none⟩ = false := by rw [hW0]; simp [go_sem]
  have f1 : W0.frozen? ⟨w.heap.size, 1, none⟩ = false := by rw [hW0]; simp [go_sem]
  have hl0 : w.heap.size + 1 < W0.heap.size := by rw [hW0]; simp
  have hokT : ∀ i, i < 2 → okH (two (z8 x0 x1 x2 x3 x4 x5 x6 x7) (z8 y0 y1 y2 y3 y4 y5 y6 y7) i) = true := fun i hi => by
    have : i = 0 ∨ i = 1 := by omega
    rcases this with rfl | rfl
    · exact ha
    · exact hb
  have hlo := two_ok hP hQ
  have HC := Lib.hid (cs_yes (two (z8 x0 x1 x2 x3 x4 x5 x6 x7) (z8 y0 y1 y2 y3 y4 y5 y6 y7)) 2 2 (w.heap.size + 1) W0 (by omega) (by omega) hA hl0 hokT hlo)
  have T0 := Lib.hid (show Below w.heap.size w W0 by rw [hW0]; go_grown)
  have HW0 := Lib.hid hW0
  have HL0 := Lib.hid hl0
  have hL := hlo.2 2 (by omega)
  have HNB : Hid (∀ i, i < 2 → ∀ k, k < 8 → 0 ≤ numR (two (z8 x0 x1 x2 x3 x4 x5 x6 x7) (z8 y0 y1 y2 y3 y4 y5 y6 y7)) 2 i k ∧ numR (two (z8 x0 x1 x2 x3 x4 x5 x6 x7) (z8 y0 y1 y2 y3 y4 y5 y6 y7)) 2 i k ≤ 100000000000000000) := Lib.hid fun i hi k hk => by have := num_bd hokT hlo i hi k hk; omega
  clear hW0 hA hl0 h1 h2 ha hb hp hq p8 q8 hP hQ hokT hlo
  obtain ⟨R, hRe⟩ : ∃ R, numR (two (z8 x0 x1 x2 x3 x4 x5 x6 x7) (z8 y0 y1 y2 y3 y4 y5 y6 y7)) 2 = R := ⟨_, rfl⟩
  obtain ⟨L, hLe⟩ : ∃ L, lcTo (sumH (two (z8 x0 x1 x2 x3 x4 x5 x6 x7) (z8 y0 y1 y2 y3 y4 y5 y6 y7))) 2 = L := ⟨_, rfl⟩
  have HRE := Lib.hid hRe
  have HLE := Lib.hid hLe
  rw [hRe] at HNB ⊢
  rw [hLe] at hL ⊢
  clear hRe hLe
  have hds := dsum_bd (k := 8) (HNB.out 0 (by omega)) (HNB.out 1 (by omega)) (by omega)
  have HO := Lib.hid fun wx => offBy_any (R 0) (R 1) wx (HNB.out 0 (by omega)) (HNB.out 1 (by omega))
  generalize dsum (R 0) (R 1) 8 = ds at *
  have HR := Lib.hid fun wx => reduced_any ds L wx (by omega) (by omega) (by omega) (by omega) (by omega)
  generalize lowN ds L = rn at *
  generalize lowD ds L = rd at *
  go_enter Try.func56, Try.ntmps56
  go_wp2_with fail
  rw [← HW0.out]
  refine HC.out.mono ?_
  rintro e w1 ⟨rb, rfl, hrb, hR, hB1⟩
  rw [HRE.out] at hR
  rw [HLE.out]
  have K0 := Lib.hid (⟨kept hB1 (by have := HL0.out; omega) r0, kept hB1 (by have := HL0.out; omega) r1, (hB1.frozen (p := ⟨w.heap.size, 0, none⟩) (by have := HL0.out; show w.heap.size < _; omega)).trans f0, (hB1.frozen (p := ⟨w.heap.size, 1, none⟩) (by have := HL0.out; show w.heap.size < _; omega)).trans f1⟩ : w1.cell? ⟨w.heap.size, 0, none⟩ = some (.int .i64 0) ∧ w1.cell? ⟨w.heap.size, 1, none⟩ = some (.int .i64 0) ∧ w1.frozen? ⟨w.heap.size, 0, none⟩ = false ∧ w1.frozen? ⟨w.heap.size, 1, none⟩ = false)
  have m0 : w1.cell? ⟨rb, 0, none⟩ = some (.int .i64 (R 0 0)) := (hR 0 0 (by omega) (by omega)).1
  have m1 : w1.cell? ⟨rb, 1, none⟩ = some (.int .i64 (R 0 1)) := (hR 0 1 (by omega) (by omega)).1
  have m2 : w1.cell? ⟨rb, 2, none⟩ = some (.int .i64 (R 0 2)) := (hR 0 2 (by omega) (by omega)).1
  have m3 : w1.cell? ⟨rb, 3, none⟩ = some (.int .i64 (R 0 3)) := (hR 0 3 (by omega) (by omega)).1
  have m4 : w1.cell? ⟨rb, 4, none⟩ = some (.int .i64 (R 0 4)) := (hR 0 4 (by omega) (by omega)).1
  have m5 : w1.cell? ⟨rb, 5, none⟩ = some (.int .i64 (R 0 5)) := (hR 0 5 (by omega) (by omega)).1
  have m6 : w1.cell? ⟨rb, 6, none⟩ = some (.int .i64 (R 0 6)) := (hR 0 6 (by omega) (by omega)).1
  have m7 : w1.cell? ⟨rb, 7, none⟩ = some (.int .i64 (R 0 7)) := (hR 0 7 (by omega) (by omega)).1
  have n0 : w1.cell? ⟨rb, 8, none⟩ = some (.int .i64 (R 1 0)) := (hR 1 0 (by omega) (by omega)).1
  have n1 : w1.cell? ⟨rb, 9, none⟩ = some (.int .i64 (R 1 1)) := (hR 1 1 (by omega) (by omega)).1
  have n2 : w1.cell? ⟨rb, 10, none⟩ = some (.int .i64 (R 1 2)) := (hR 1 2 (by omega) (by omega)).1
  have n3 : w1.cell? ⟨rb, 11, none⟩ = some (.int .i64 (R 1 3)) := (hR 1 3 (by omega) (by omega)).1
  have n4 : w1.cell? ⟨rb, 12, none⟩ = some (.int .i64 (R 1 4)) := (hR 1 4 (by omega) (by omega)).1
  have n5 : w1.cell? ⟨rb, 13, none⟩ = some (.int .i64 (R 1 5)) := (hR 1 5 (by omega) (by omega)).1
  have n6 : w1.cell? ⟨rb, 14, none⟩ = some (.int .i64 (R 1 6)) := (hR 1 6 (by omega) (by omega)).1
  have n7 : w1.cell? ⟨rb, 15, none⟩ = some (.int .i64 (R 1 7)) := (hR 1 7 (by omega) (by omega)).1
  have T1 := Lib.hid (T0.out.trans (hB1.mono T0.out.size))
  have LW := Lib.hid (show w.heap.size < w1.heap.size by have := HL0.out; have := hB1.size; omega)
  clear hR hrb hB1 r0 r1 f0 f1 c0 c1 c2 c3 c4 c5 c6 c7 e0 e1 e2 e3 e4 e5 e6 e7
  go_wp2_with fail
  go_region_with (first
    | (go_at_call 57; refine (HO.out _).mono ?_; rintro e w2 ⟨rfl, hB2⟩)
    | (go_at_call 48; refine (HR.out _).mono ?_; rintro e w3 ⟨rfl, hB3⟩; have LW2 : w.heap.size < w2.heap.size := (by have := LW.out; have := hB2.size; have e : w1.drew.heap.size = w1.heap.size := rfl; omega); have k0 := kept hB3 LW2 (kept hB2 LW.out K0.out.1); have k1 := kept hB3 LW2 (kept hB2 LW.out K0.out.2.1); have g0 := (hB3.frozen (p := ⟨w.heap.size, 0, none⟩) LW2).trans ((hB2.frozen (p := ⟨w.heap.size, 0, none⟩) LW.out).trans K0.out.2.2.1); have g1 := (hB3.frozen (p := ⟨w.heap.size, 1, none⟩) LW2).trans ((hB2.frozen (p := ⟨w.heap.size, 1, none⟩) LW.out).trans K0.out.2.2.2))
    | fail)
  all_goals
    obtain ⟨s0, s1⟩ := resF (.int .i64 rn) (.int .i64 rd) k0 k1
    go_wp2_with fail
    refine bodyPost_ret (v := .agg #[.int .i64 rn, .int .i64 rd]) (by simp [results, Try.results56, go_sem, s0, s1]; try rfl) rfl ?_
    have T3 : Below w.heap.size w w3 := (T1.out.drew.trans (hB2.mono T1.out.drew.size)).trans (hB3.mono (Nat.le_of_lt LW2))
    exact ⟨rfl, (T3.setCell (p := ⟨w.heap.size, 0, none⟩) (Nat.le_refl _) _).setCell (p := ⟨w.heap.size, 1, none⟩) (Nat.le_refl _) _⟩

set_option maxRecDepth 100000 in
set_option maxHeartbeats 4000000 in
theorem implOffC_no (x0 x1 x2 x3 x4 x5 x6 x7 y0 y1 y2 y3 y4 y5 y6 y7 : Int) (ha : okH (z8 x0 x1 x2 x3 x4 x5 x6 x7) = true) (hb : okH (z8 y0 y1 y2 y3 y4 y5 y6 y7) = true) (hz : sumTo (z8 x0 x1 x2 x3 x4 x5 x6 x7) 8 = 0 ∨ sumTo (z8 y0 y1 y2 y3 y4 y5 y6 y7) 8 = 0) (b1 b2 : Nat) (w : World) (h1 : HeapAt w b1 0 (z8 x0 x1 x2 x3 x4 x5 x6 x7)) (h2 : HeapAt w b2 0 (z8 y0 y1 y2 y3 y4 y5 y6 y7)) :
    Calls Try.prog 56 #[.pointer (some ⟨b1, 0, none⟩), .pointer (some ⟨b2, 0, none⟩)] w fun e w' => e = .panicked [{ v := .iface 86 (.agg #[]), recovered := false }] ∧ Below w.heap.size w w' := by
  have l1 := h1.lt
  have l2 := h2.lt
  have p8 := sum8_bd ha
  have c0 : w.cell? ⟨b1, 0, none⟩ = some (.int .i32 x0) := by have := h1 0 (by omega); rwa [Nat.zero_add] at this
  have c1 : w.cell? ⟨b1, 1, none⟩ = some (.int .i32 x1) := by have := h1 1 (by omega); rwa [Nat.zero_add] at this
  have c2 : w.cell? ⟨b1, 2, none⟩ = some (.int .i32 x2) := by have := h1 2 (by omega); rwa [Nat.zero_add] at this
  have c3 : w.cell? ⟨b1, 3, none⟩ = some (.int .i32 x3) := by have := h1 3 (by omega); rwa [Nat.zero_add] at this
  have c4 : w.cell? ⟨b1, 4, none⟩ = some (.int .i32 x4) := by have := h1 4 (by omega); rwa [Nat.zero_add] at this
  have c5 : w.cell? ⟨b1, 5, none⟩ = some (.int .i32 x5) := by have := h1 5 (by omega); rwa [Nat.zero_add] at this
  have c6 : w.cell? ⟨b1, 6, none⟩ = some (.int .i32 x6) := by have := h1 6 (by omega); rwa [Nat.zero_add] at this
  have c7 : w.cell? ⟨b1, 7, none⟩ = some (.int .i32 x7) := by have := h1 7 (by omega); rwa [Nat.zero_add] at this
  have e0 : w.cell? ⟨b2, 0, none⟩ = some (.int .i32 y0) := by have := h2 0 (by omega); rwa [Nat.zero_add] at this
  have e1 : w.cell? ⟨b2, 1, none⟩ = some (.int .i32 y1) := by have := h2 1 (by omega); rwa [Nat.zero_add] at this
  have e2 : w.cell? ⟨b2, 2, none⟩ = some (.int .i32 y2) := by have := h2 2 (by omega); rwa [Nat.zero_add] at this
  have e3 : w.cell? ⟨b2, 3, none⟩ = some (.int .i32 y3) := by have := h2 3 (by omega); rwa [Nat.zero_add] at this
  have e4 : w.cell? ⟨b2, 4, none⟩ = some (.int .i32 y4) := by have := h2 4 (by omega); rwa [Nat.zero_add] at this
  have e5 : w.cell? ⟨b2, 5, none⟩ = some (.int .i32 y5) := by have := h2 5 (by omega); rwa [Nat.zero_add] at this
  have e6 : w.cell? ⟨b2, 6, none⟩ = some (.int .i32 y6) := by have := h2 6 (by omega); rwa [Nat.zero_add] at this
  have e7 : w.cell? ⟨b2, 7, none⟩ = some (.int .i32 y7) := by have := h2 7 (by omega); rwa [Nat.zero_add] at this
  obtain ⟨W0, hW0⟩ : ∃ W0, W0 = (w.alloc (.cells #[.int .i64 0, .int .i64 0] 38)).alloc (.cells #[.int .i32 x0, .int .i32 x1, .int .i32 x2, .int .i32 x3, .int .i32 x4, .int .i32 x5, .int .i32 x6, .int .i32 x7, .int .i32 y0, .int .i32 y1, .int .i32 y2, .int .i32 y3, .int .i32 y4, .int .i32 y5, .int .i32 y6, .int .i32 y7] 23) := ⟨_, rfl⟩
  have hA : HeapsAt W0 (w.heap.size + 1) 2 (two (z8 x0 x1 x2 x3 x4 x5 x6 x7) (z8 y0 y1 y2 y3 y4 y5 y6 y7)) := by
    have := heaps_alloc (w.alloc (.cells #[.int .i64 0, .int .i64 0] 38)) x0 x1 x2 x3 x4 x5 x6 x7 y0 y1 y2 y3 y4 y5 y6 y7 23
    rw [World.size_alloc] at this
    rw [hW0]
    exact this
  have hl0 : w.heap.size + 1 < W0.heap.size := by rw [hW0]; simp
  have hokT : ∀ i, i < 2 → okH (two (z8 x0 x1 x2 x3 x4 x5 x6 x7) (z8 y0 y1 y2 y3 y4 y5 y6 y7) i) = true := fun i hi => by
    have : i = 0 ∨ i = 1 := by omega
    rcases this with rfl | rfl
    · exact ha
    · exact hb
  have HC : Hid (Calls Try.prog 53 #[.slice (some ⟨w.heap.size + 1, 0, none⟩) 2 2] W0 fun e w' => e = .panicked [{ v := .iface 86 (.agg #[]), recovered := false }] ∧ Below W0.heap.size W0 w') := Lib.hid (by
    by_cases h0 : sumTo (z8 x0 x1 x2 x3 x4 x5 x6 x7) 8 = 0
    · exact cs_no (two (z8 x0 x1 x2 x3 x4 x5 x6 x7) (z8 y0 y1 y2 y3 y4 y5 y6 y7)) 2 2 0 (w.heap.size + 1) W0 (by omega) (by omega) hA hl0 hokT ⟨fun i hi => by omega, fun k hk => by rw [show k = 0 by omega]; simp [lcTo]⟩ h0
    · have hq0 := hz.resolve_left h0
      refine cs_no (two (z8 x0 x1 x2 x3 x4 x5 x6 x7) (z8 y0 y1 y2 y3 y4 y5 y6 y7)) 2 2 1 (w.heap.size + 1) W0 (by omega) (by omega) hA hl0 hokT ?_ hq0
      exact LcOk.of (c := 8000) (fun i hi => by rw [show i = 0 by omega]; show 0 < sumTo (z8 x0 x1 x2 x3 x4 x5 x6 x7) 8 ∧ sumTo (z8 x0 x1 x2 x3 x4 x5 x6 x7) 8 ≤ 8000; omega) (by omega) (by omega) (by omega))
  have T0 := Lib.hid (show Below w.heap.size w W0 by rw [hW0]; go_grown)
  have HW0 := Lib.hid hW0
  clear hW0 hA hl0 h1 h2 ha hb hz p8 hokT
  go_enter Try.func56, Try.ntmps56
  go_wp2_with fail
  rw [← HW0.out]
  refine HC.out.mono ?_
  rintro e w1 ⟨rfl, hB⟩
  exact ⟨rfl, rfl, T0.out.trans (hB.mono T0.out.size)⟩

set_option maxRecDepth 100000 in
set_option maxHeartbeats 4000000 in
theorem implOff_any (x0 x1 x2 x3 x4 x5 x6 x7 y0 y1 y2 y3 y4 y5 y6 y7 : Int) (w : World) :
    Calls Try.prog 32 #[.agg #[.int .i32 x0, .int .i32 x1, .int .i32 x2, .int .i32 x3, .int .i32 x4, .int .i32 x5, .int .i32 x6, .int .i32 x7], .agg #[.int .i32 y0, .int .i32 y1, .int .i32 y2, .int .i32 y3, .int .i32 y4, .int .i32 y5, .int .i32 y6, .int .i32 y7]] w fun e w' => e = .returned (.tuple #[.agg #[.int .i64 (offF (z8 x0 x1 x2 x3 x4 x5 x6 x7) (z8 y0 y1 y2 y3 y4 y5 y6 y7)).1, .int .i64 (offF (z8 x0 x1 x2 x3 x4 x5 x6 x7) (z8 y0 y1 y2 y3 y4 y5 y6 y7)).2.1], .int .i64 (offF (z8 x0 x1 x2 x3 x4 x5 x6 x7) (z8 y0 y1 y2 y3 y4 y5 y6 y7)).2.2]) ∧ Below w.heap.size w w' := by
  have hmf : ∀ (fn : Fn) (first cap : Array Value) (w : World), (Instr.makeFunc fn first cap).run Try.prog w = .ok (.func fn first cap) w := fun _ _ _ _ => rfl
  have K0 := Lib.hid (OB.made w x0 x1 x2 x3 x4 x5 x6 x7 y0 y1 y2 y3 y4 y5 y6 y7 23 23 38)
  obtain ⟨W0, hW0⟩ : ∃ W0, W0 = (((w.alloc (.cells #[.int .i32 x0, .int .i32 x1, .int .i32 x2, .int .i32 x3, .int .i32 x4, .int .i32 x5, .int .i32 x6, .int .i32 x7] 23)).alloc (.cells #[.int .i32 y0, .int .i32 y1, .int .i32 y2, .int .i32 y3, .int .i32 y4, .int .i32 y5, .int .i32 y6, .int .i32 y7] 23)).alloc (.cells #[.int .i64 0, .int .i64 0] 38)) := ⟨_, rfl⟩
  rw [← hW0] at K0
  have HW0 := Lib.hid hW0
  have HVX := Lib.hid fun wx => validHeap_any x0 x1 x2 x3 x4 x5 x6 x7 wx
  have HVY := Lib.hid fun wx => validHeap_any y0 y1 y2 y3 y4 y5 y6 y7 wx
  have c0 : W0.cell? ⟨w.heap.size, 0, none⟩ = some (.int .i32 x0) := by have := K0.out.1 0 (by omega); rwa [Nat.zero_add] at this
  have c1 : W0.cell? ⟨w.heap.size, 1, none⟩ = some (.int .i32 x1) := by have := K0.out.1 1 (by omega); rwa [Nat.zero_add] at this
  have c2 : W0.cell? ⟨w.heap.size, 2, none⟩ = some (.int .i32 x2) := by have := K0.out.1 2 (by omega); rwa [Nat.zero_add] at this
  have c3 : W0.cell? ⟨w.heap.size, 3, none⟩ = some (.int .i32 x3) := by have := K0.out.1 3 (by omega); rwa [Nat.zero_add] at this
  have c4 : W0.cell? ⟨w.heap.size, 4, none⟩ = some (.int .i32 x4) := by have := K0.out.1 4 (by omega); rwa [Nat.zero_add] at this
  have c5 : W0.cell? ⟨w.heap.size, 5, none⟩ = some (.int .i32 x5) := by have := K0.out.1 5 (by omega); rwa [Nat.zero_add] at this
  have c6 : W0.cell? ⟨w.heap.size, 6, none⟩ = some (.int .i32 x6) := by have := K0.out.1 6 (by omega); rwa [Nat.zero_add] at this
  have c7 : W0.cell? ⟨w.heap.size, 7, none⟩ = some (.int .i32 x7) := by have := K0.out.1 7 (by omega); rwa [Nat.zero_add] at this
  clear hW0
  cases ha : okH (z8 x0 x1 x2 x3 x4 x5 x6 x7) with
  | false =>
    have hqe := Lib.hid (offF_bad (a := (z8 x0 x1 x2 x3 x4 x5 x6 x7)) (b := (z8 y0 y1 y2 y3 y4 y5 y6 y7)) (by rw [ha]; simp))
    rw [ha] at HVX
    clear ha
    go_enter Try.func32, Try.ntmps32
    go_wp2_with fail
    rw [← HW0.out]
    refine (HVX.out _).mono ?_
    rintro e w1 ⟨rfl, hB⟩
    have K1 := Lib.hid (K0.out.next hB)
    obtain ⟨⟨r0, r1⟩, ⟨f0, f1⟩⟩ := K1.out.2.2.1
    have T0 := Lib.hid K1.out.2.2.2
    clear hB c0 c1 c2 c3 c4 c5 c6 c7
    obtain ⟨e0, e1⟩ := resF (.int .i64 0) (.int .i64 0) r0 r1
    go_wp2_with fail
    refine bodyPost_ret (by simp [results, Try.results32, go_sem, e0, e1]; try rfl) rfl ?_
    rw [hqe.out]
    exact ⟨rfl, (T0.out.setCell (p := ⟨w.heap.size + 2, 0, none⟩) (Nat.le_add_right _ _) _).setCell (p := ⟨w.heap.size + 2, 1, none⟩) (Nat.le_add_right _ _) _⟩
  | true =>
    rw [ha] at HVX
    cases hb : okH (z8 y0 y1 y2 y3 y4 y5 y6 y7) with
    | false =>
      have hqe := Lib.hid (offF_bad (a := (z8 x0 x1 x2 x3 x4 x5 x6 x7)) (b := (z8 y0 y1 y2 y3 y4 y5 y6 y7)) (by rw [hb]; simp))
      rw [hb] at HVY
      clear ha hb
      go_enter Try.func32, Try.ntmps32
      go_wp2_with fail
      rw [← HW0.out]
      refine (HVX.out _).mono ?_
      rintro e w1 ⟨rfl, hB⟩
      have K1 := Lib.hid (K0.out.next hB)
      clear hB c0 c1 c2 c3 c4 c5 c6 c7
      have c0 : w1.cell? ⟨w.heap.size + 1, 0, none⟩ = some (.int .i32 y0) := by have := K1.out.2.1 0 (by omega); rwa [Nat.zero_add] at this
      have c1 : w1.cell? ⟨w.heap.size + 1, 1, none⟩ = some (.int .i32 y1) := by have := K1.out.2.1 1 (by omega); rwa [Nat.zero_add] at this
      have c2 : w1.cell? ⟨w.heap.size + 1, 2, none⟩ = some (.int .i32 y2) := by have := K1.out.2.1 2 (by omega); rwa [Nat.zero_add] at this
      have c3 : w1.cell? ⟨w.heap.size + 1, 3, none⟩ = some (.int .i32 y3) := by have := K1.out.2.1 3 (by omega); rwa [Nat.zero_add] at this
      have c4 : w1.cell? ⟨w.heap.size + 1, 4, none⟩ = some (.int .i32 y4) := by have := K1.out.2.1 4 (by omega); rwa [Nat.zero_add] at this
      have c5 : w1.cell? ⟨w.heap.size + 1, 5, none⟩ = some (.int .i32 y5) := by have := K1.out.2.1 5 (by omega); rwa [Nat.zero_add] at this
      have c6 : w1.cell? ⟨w.heap.size + 1, 6, none⟩ = some (.int .i32 y6) := by have := K1.out.2.1 6 (by omega); rwa [Nat.zero_add] at this
      have c7 : w1.cell? ⟨w.heap.size + 1, 7, none⟩ = some (.int .i32 y7) := by have := K1.out.2.1 7 (by omega); rwa [Nat.zero_add] at this
      go_wp2_with fail
      refine (HVY.out _).mono ?_
      rintro e w2 ⟨rfl, hB⟩
      have K2 := Lib.hid (K1.out.next hB)
      obtain ⟨⟨r0, r1⟩, ⟨f0, f1⟩⟩ := K2.out.2.2.1
      have T0 := Lib.hid K2.out.2.2.2
      clear hB c0 c1 c2 c3 c4 c5 c6 c7
      obtain ⟨e0, e1⟩ := resF (.int .i64 0) (.int .i64 0) r0 r1
      go_wp2_with fail
      refine bodyPost_ret (by simp [results, Try.results32, go_sem, e0, e1]; try rfl) rfl ?_
      rw [hqe.out]
      exact ⟨rfl, (T0.out.setCell (p := ⟨w.heap.size + 2, 0, none⟩) (Nat.le_add_right _ _) _).setCell (p := ⟨w.heap.size + 2, 1, none⟩) (Nat.le_add_right _ _) _⟩
    | true =>
      rw [hb] at HVY
      obtain ⟨F, hFe⟩ : ∃ F, offF (z8 x0 x1 x2 x3 x4 x5 x6 x7) (z8 y0 y1 y2 y3 y4 y5 y6 y7) = F := ⟨_, rfl⟩
      have hcall : ∀ wx, OB w wx (z8 x0 x1 x2 x3 x4 x5 x6 x7) (z8 y0 y1 y2 y3 y4 y5 y6 y7) → Calls Try.prog 45 #[.func (Fn.func 56) #[] #[.pointer (some ⟨w.heap.size, 0, none⟩), .pointer (some ⟨w.heap.size + 1, 0, none⟩)]] wx fun e w' => e = .returned (.tuple #[.agg #[.int .i64 F.1, .int .i64 F.2.1], .int .i64 F.2.2]) ∧ Below wx.heap.size wx w' := fun wx K => by
        by_cases hz : sumTo (z8 x0 x1 x2 x3 x4 x5 x6 x7) 8 = 0 ∨ sumTo (z8 y0 y1 y2 y3 y4 y5 y6 y7) 8 = 0
        · have hq := offF_none ha hb hz
          rw [hFe] at hq
          rw [hq]
          exact woolOffBy_no ⟨w.heap.size, 0, none⟩ ⟨w.heap.size + 1, 0, none⟩ wx fun wy hy => implOffC_no x0 x1 x2 x3 x4 x5 x6 x7 y0 y1 y2 y3 y4 y5 y6 y7 ha hb hz w.heap.size (w.heap.size + 1) wy (K.1.below hy K.1.lt) (K.2.1.below hy K.2.1.lt)
        · have hq := offF_yes ha hb hz
          have h2 : F.2.2 = 0 := by rw [← hFe, hq]
          rw [h2]
          refine woolOffBy_yes ⟨w.heap.size, 0, none⟩ ⟨w.heap.size + 1, 0, none⟩ F.1 F.2.1 wx fun wy hy => ?_
          have := implOffC_yes x0 x1 x2 x3 x4 x5 x6 x7 y0 y1 y2 y3 y4 y5 y6 y7 ha hb (fun e => hz (.inl e)) (fun e => hz (.inr e)) w.heap.size (w.heap.size + 1) wy (K.1.below hy K.1.lt) (K.2.1.below hy K.2.1.lt)
          rw [hFe] at this
          exact this
      have HCL := Lib.hid hcall
      rw [hFe]
      clear hcall hFe ha hb
      obtain ⟨rn, rd, cc⟩ := F
      go_enter Try.func32, Try.ntmps32
      go_wp2_with fail
      rw [← HW0.out]
      refine (HVX.out _).mono ?_
      rintro e w1 ⟨rfl, hB⟩
      have K1 := Lib.hid (K0.out.next hB)
      clear hB c0 c1 c2 c3 c4 c5 c6 c7
      have c0 : w1.cell? ⟨w.heap.size + 1, 0, none⟩ = some (.int .i32 y0) := by have := K1.out.2.1 0 (by omega); rwa [Nat.zero_add] at this
      have c1 : w1.cell? ⟨w.heap.size + 1, 1, none⟩ = some (.int .i32 y1) := by have := K1.out.2.1 1 (by omega); rwa [Nat.zero_add] at this
      have c2 : w1.cell? ⟨w.heap.size + 1, 2, none⟩ = some (.int .i32 y2) := by have := K1.out.2.1 2 (by omega); rwa [Nat.zero_add] at this
      have c3 : w1.cell? ⟨w.heap.size + 1, 3, none⟩ = some (.int .i32 y3) := by have := K1.out.2.1 3 (by omega); rwa [Nat.zero_add] at this
      have c4 : w1.cell? ⟨w.heap.size + 1, 4, none⟩ = some (.int .i32 y4) := by have := K1.out.2.1 4 (by omega); rwa [Nat.zero_add] at this
      have c5 : w1.cell? ⟨w.heap.size + 1, 5, none⟩ = some (.int .i32 y5) := by have := K1.out.2.1 5 (by omega); rwa [Nat.zero_add] at this
      have c6 : w1.cell? ⟨w.heap.size + 1, 6, none⟩ = some (.int .i32 y6) := by have := K1.out.2.1 6 (by omega); rwa [Nat.zero_add] at this
      have c7 : w1.cell? ⟨w.heap.size + 1, 7, none⟩ = some (.int .i32 y7) := by have := K1.out.2.1 7 (by omega); rwa [Nat.zero_add] at this
      go_wp2_with fail
      refine (HVY.out _).mono ?_
      rintro e w2 ⟨rfl, hB⟩
      have K2 := Lib.hid (K1.out.next hB)
      clear hB c0 c1 c2 c3 c4 c5 c6 c7
      go_wp2_with fail
      refine (HCL.out _ K2.out).mono ?_
      rintro e w3 ⟨rfl, hB⟩
      have K3 := Lib.hid (K2.out.next hB)
      obtain ⟨⟨r0, r1⟩, ⟨f0, f1⟩⟩ := K3.out.2.2.1
      have T0 := Lib.hid K3.out.2.2.2
      clear hB
      obtain ⟨e0, e1⟩ := resF (.int .i64 rn) (.int .i64 rd) r0 r1
      go_wp2_with fail
      refine bodyPost_ret (by simp [results, Try.results32, go_sem, e0, e1]; try rfl) rfl ?_
      exact ⟨rfl, (T0.out.setCell (p := ⟨w.heap.size + 2, 0, none⟩) (Nat.le_add_right _ _) _).setCell (p := ⟨w.heap.size + 2, 1, none⟩) (Nat.le_add_right _ _) _⟩
end Go.Proofs.Ytekejhnhkifcfaa
