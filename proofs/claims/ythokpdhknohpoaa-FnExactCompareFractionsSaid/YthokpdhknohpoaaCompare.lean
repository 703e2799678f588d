/-
  Proved here: the law on CompareFractions answers true, for all arguments; no condition.
-/
import Derived.Test.YthokpdhknohpoaaTold
namespace Go.Proofs.Ythokpdhknohpoaa
open Go.RowKit

/-- What CompareFractions returns for a/b and c/d. -/
def cmpF (a b c d : Int) : Int × Int := if (toldB a b && toldB c d) = true then ((if a * d < c * b then -1 else if c * b < a * d then 1 else 0), 0) else (0, 1)

theorem toldB_bd {n d : Int} (h : toldB n d = true) : -1000000000 ≤ n ∧ n ≤ 1000000000 ∧ 0 < d ∧ d ≤ 1000000000 := by
  simp only [toldB, Bool.and_eq_true, decide_eq_true_eq] at h
  have h1 := billB_of h.1.1.1
  have h2 := billB_of h.1.1.2
  exact ⟨h1.1, h1.2, h.1.2, h2.2⟩
theorem mul_bd (a d : Int) (h1 : -1000000000 ≤ a) (h2 : a ≤ 1000000000) (h3 : 0 < d) (h4 : d ≤ 1000000000) : -1000000000000000000 ≤ a * d ∧ a * d ≤ 1000000000000000000 := by
  have e1 : (-1000000000) * d ≤ a * d := Int.mul_le_mul_of_nonneg_right h1 (by omega)
  have e2 : a * d ≤ 1000000000 * d := Int.mul_le_mul_of_nonneg_right h2 (by omega)
  omega

set_option maxHeartbeats 800000 in
theorem specCompare_any (a b c d x k : Int) (w : World) (hF : cmpF a b c d = (x, k)) :
    Calls Try.prog 17 #[.agg #[.int .i64 a, .int .i64 b], .agg #[.int .i64 c, .int .i64 d]] w fun e w' => e = .returned (.tuple #[.int .i64 x, .int .i64 k]) ∧ Below w.heap.size w w' := by
  cases h1 : toldB a b with
  | false =>
    have hF2 : cmpF a b c d = (0, 1) := by simp [cmpF, h1]
    rw [hF2] at hF
    simp only [Prod.mk.injEq] at hF
    obtain ⟨rfl, rfl⟩ := hF
    have t1 := Lib.hid fun wx => told_any a b wx
    rw [h1] at t1
    clear hF2 h1
    go_enter Try.func17, Try.ntmps17
    go_wp2_with fail
    refine (t1.out _).mono ?_
    rintro e w1 ⟨rfl, hB⟩
    have hB1 : Below w.heap.size w w1 := (((Below.refl _ _).alloc (Nat.le_refl _) _).alloc (by simp) _).trans (hB.mono (by simp; omega))
    clear hB
    go_wp2
    go_ret2
    exact ⟨rfl, hB1⟩
  | true =>
    have t1 := Lib.hid fun wx => told_any a b wx
    rw [h1] at t1
    cases h2 : toldB c d with
    | false =>
      have hF2 : cmpF a b c d = (0, 1) := by simp [cmpF, h2]
      rw [hF2] at hF
      simp only [Prod.mk.injEq] at hF
      obtain ⟨rfl, rfl⟩ := hF
      have t2 := Lib.hid fun wx => told_any c d wx
      rw [h2] at t2
      clear hF2 h1 h2
      go_enter Try.func17, Try.ntmps17
      go_wp2_with fail
      refine (t1.out _).mono ?_
      rintro e w1 ⟨rfl, hB⟩
      have hB1 : Below w.heap.size w w1 := (((Below.refl _ _).alloc (Nat.le_refl _) _).alloc (by simp) _).trans (hB.mono (by simp; omega))
      have wc0 : w1.cell? ⟨w.heap.size, 0, none⟩ = some (.int .i64 a) := kept hB (by simp only [World.size_alloc]; omega) (by simp [go_sem])
      have wc1 : w1.cell? ⟨w.heap.size, 1, none⟩ = some (.int .i64 b) := kept hB (by simp only [World.size_alloc]; omega) (by simp [go_sem])
      have wc2 : w1.cell? ⟨w.heap.size + 1, 0, none⟩ = some (.int .i64 c) := kept hB (by simp only [World.size_alloc]; omega) (by simp [go_sem])
      have wc3 : w1.cell? ⟨w.heap.size + 1, 1, none⟩ = some (.int .i64 d) := kept hB (by simp only [World.size_alloc]; omega) (by simp [go_sem])
      clear hB
      go_wp2_with fail
      refine (t2.out _).mono ?_
      rintro e w2 ⟨rfl, hB⟩
      have hB2 : Below w.heap.size w w2 := hB1.trans (hB.mono hB1.size)
      clear hB hB1
      go_wp2
      go_ret2
      exact ⟨rfl, hB2⟩
    | true =>
      have t2 := Lib.hid fun wx => told_any c d wx
      rw [h2] at t2
      have b1 := toldB_bd h1
      have b2 := toldB_bd h2
      have m1 := mul_bd a d b1.1 b1.2.1 b2.2.2.1 b2.2.2.2
      have m2 := mul_bd c b b2.1 b2.2.1 b1.2.2.1 b1.2.2.2
      have hF2 : cmpF a b c d = ((if a * d < c * b then -1 else if c * b < a * d then 1 else 0), 0) := by simp [cmpF, h1, h2]
      rw [hF2] at hF
      simp only [Prod.mk.injEq] at hF
      obtain ⟨hx, rfl⟩ := hF
      have HX := Lib.hid hx
      clear hF2 h1 h2 hx
      go_enter Try.func17, Try.ntmps17
      go_wp2_with fail
      refine (t1.out _).mono ?_
      rintro e w1 ⟨rfl, hB⟩
      have hz1 := hB.size
      simp only [World.size_alloc] at hz1
      have hB1 : Below w.heap.size w w1 := (((Below.refl _ _).alloc (Nat.le_refl _) _).alloc (by simp) _).trans (hB.mono (by simp; omega))
      have wc0 : w1.cell? ⟨w.heap.size, 0, none⟩ = some (.int .i64 a) := kept hB (by simp only [World.size_alloc]; omega) (by simp [go_sem])
      have wc1 : w1.cell? ⟨w.heap.size, 1, none⟩ = some (.int .i64 b) := kept hB (by simp only [World.size_alloc]; omega) (by simp [go_sem])
      have wc2 : w1.cell? ⟨w.heap.size + 1, 0, none⟩ = some (.int .i64 c) := kept hB (by simp only [World.size_alloc]; omega) (by simp [go_sem])
      have wc3 : w1.cell? ⟨w.heap.size + 1, 1, none⟩ = some (.int .i64 d) := kept hB (by simp only [World.size_alloc]; omega) (by simp [go_sem])
      clear hB
      go_wp2_with fail
      refine (t2.out _).mono ?_
      rintro e w2 ⟨rfl, hB⟩
      have vc0 : w2.cell? ⟨w.heap.size, 0, none⟩ = some (.int .i64 a) := kept hB (by omega) wc0
      have vc1 : w2.cell? ⟨w.heap.size, 1, none⟩ = some (.int .i64 b) := kept hB (by omega) wc1
      have vc2 : w2.cell? ⟨w.heap.size + 1, 0, none⟩ = some (.int .i64 c) := kept hB (by omega) wc2
      have vc3 : w2.cell? ⟨w.heap.size + 1, 1, none⟩ = some (.int .i64 d) := kept hB (by omega) wc3
      have hB2 : Below w.heap.size w w2 := hB1.trans (hB.mono hB1.size)
      clear hB hB1 wc0 wc1 wc2 wc3
      by_cases k1 : a * d < c * b
      · go_wp2
        go_ret2
        have hh := HX.out
        rw [if_pos k1] at hh
        exact ⟨ret_two hh rfl, hB2⟩
      · by_cases k2 : c * b < a * d
        · go_wp2
          go_ret2
          have hh := HX.out
          rw [if_neg (by omega), if_pos k2] at hh
          exact ⟨ret_two hh rfl, hB2⟩
        · go_wp2
          go_ret2
          have hh := HX.out
          rw [if_neg (by omega), if_neg (by omega)] at hh
          exact ⟨ret_two hh rfl, hB2⟩

set_option maxHeartbeats 800000 in
theorem implCompare_any (a b c d x k : Int) (w : World) (hF : cmpF a b c d = (x, k)) :
    Calls Try.prog 19 #[.agg #[.int .i64 a, .int .i64 b], .agg #[.int .i64 c, .int .i64 d]] w fun e w' => e = .returned (.tuple #[.int .i64 x, .int .i64 k]) ∧ Below w.heap.size w w' := by
  cases h1 : toldB a b with
  | false =>
    have hF2 : cmpF a b c d = (0, 1) := by simp [cmpF, h1]
    rw [hF2] at hF
    simp only [Prod.mk.injEq] at hF
    obtain ⟨rfl, rfl⟩ := hF
    have t1 := Lib.hid fun wx => isTold_any a b wx
    rw [h1] at t1
    clear hF2 h1
    go_enter Try.func19, Try.ntmps19
    go_wp2_with fail
    refine (t1.out _).mono ?_
    rintro e w1 ⟨rfl, hB⟩
    have hB1 : Below w.heap.size w w1 := (((Below.refl _ _).alloc (Nat.le_refl _) _).alloc (by simp) _).trans (hB.mono (by simp; omega))
    clear hB
    go_wp2
    go_ret2
    exact ⟨rfl, hB1⟩
  | true =>
    have t1 := Lib.hid fun wx => isTold_any a b wx
    rw [h1] at t1
    cases h2 : toldB c d with
    | false =>
      have hF2 : cmpF a b c d = (0, 1) := by simp [cmpF, h2]
      rw [hF2] at hF
      simp only [Prod.mk.injEq] at hF
      obtain ⟨rfl, rfl⟩ := hF
      have t2 := Lib.hid fun wx => isTold_any c d wx
      rw [h2] at t2
      clear hF2 h1 h2
      go_enter Try.func19, Try.ntmps19
      go_wp2_with fail
      refine (t1.out _).mono ?_
      rintro e w1 ⟨rfl, hB⟩
      have hB1 : Below w.heap.size w w1 := (((Below.refl _ _).alloc (Nat.le_refl _) _).alloc (by simp) _).trans (hB.mono (by simp; omega))
      have wc0 : w1.cell? ⟨w.heap.size, 0, none⟩ = some (.int .i64 a) := kept hB (by simp only [World.size_alloc]; omega) (by simp [go_sem])
      have wc1 : w1.cell? ⟨w.heap.size, 1, none⟩ = some (.int .i64 b) := kept hB (by simp only [World.size_alloc]; omega) (by simp [go_sem])
      have wc2 : w1.cell? ⟨w.heap.size + 1, 0, none⟩ = some (.int .i64 c) := kept hB (by simp only [World.size_alloc]; omega) (by simp [go_sem])
      have wc3 : w1.cell? ⟨w.heap.size + 1, 1, none⟩ = some (.int .i64 d) := kept hB (by simp only [World.size_alloc]; omega) (by simp [go_sem])
      clear hB
      go_wp2_with fail
      refine (t2.out _).mono ?_
      rintro e w2 ⟨rfl, hB⟩
      have hB2 : Below w.heap.size w w2 := hB1.trans (hB.mono hB1.size)
      clear hB hB1
      go_wp2
      go_ret2
      exact ⟨rfl, hB2⟩
    | true =>
      have t2 := Lib.hid fun wx => isTold_any c d wx
      rw [h2] at t2
      have b1 := toldB_bd h1
      have b2 := toldB_bd h2
      have m1 := mul_bd a d b1.1 b1.2.1 b2.2.2.1 b2.2.2.2
      have m2 := mul_bd c b b2.1 b2.2.1 b1.2.2.1 b1.2.2.2
      have hF2 : cmpF a b c d = ((if a * d < c * b then -1 else if c * b < a * d then 1 else 0), 0) := by simp [cmpF, h1, h2]
      rw [hF2] at hF
      simp only [Prod.mk.injEq] at hF
      obtain ⟨hx, rfl⟩ := hF
      have HX := Lib.hid hx
      clear hF2 h1 h2 hx
      go_enter Try.func19, Try.ntmps19
      go_wp2_with fail
      refine (t1.out _).mono ?_
      rintro e w1 ⟨rfl, hB⟩
      have hz1 := hB.size
      simp only [World.size_alloc] at hz1
      have hB1 : Below w.heap.size w w1 := (((Below.refl _ _).alloc (Nat.le_refl _) _).alloc (by simp) _).trans (hB.mono (by simp; omega))
      have wc0 : w1.cell? ⟨w.heap.size, 0, none⟩ = some (.int .i64 a) := kept hB (by simp only [World.size_alloc]; omega) (by simp [go_sem])
      have wc1 : w1.cell? ⟨w.heap.size, 1, none⟩ = some (.int .i64 b) := kept hB (by simp only [World.size_alloc]; omega) (by simp [go_sem])
      have wc2 : w1.cell? ⟨w.heap.size + 1, 0, none⟩ = some (.int .i64 c) := kept hB (by simp only [World.size_alloc]; omega) (by simp [go_sem])
      have wc3 : w1.cell? ⟨w.heap.size + 1, 1, none⟩ = some (.int .i64 d) := kept hB (by simp only [World.size_alloc]; omega) (by simp [go_sem])
      clear hB
      go_wp2_with fail
      refine (t2.out _).mono ?_
      rintro e w2 ⟨rfl, hB⟩
      have vc0 : w2.cell? ⟨w.heap.size, 0, none⟩ = some (.int .i64 a) := kept hB (by omega) wc0
      have vc1 : w2.cell? ⟨w.heap.size, 1, none⟩ = some (.int .i64 b) := kept hB (by omega) wc1
      have vc2 : w2.cell? ⟨w.heap.size + 1, 0, none⟩ = some (.int .i64 c) := kept hB (by omega) wc2
      have vc3 : w2.cell? ⟨w.heap.size + 1, 1, none⟩ = some (.int .i64 d) := kept hB (by omega) wc3
      have hB2 : Below w.heap.size w w2 := hB1.trans (hB.mono hB1.size)
      clear hB hB1 wc0 wc1 wc2 wc3
      by_cases k1 : a * d < c * b
      · go_wp2
        go_quiet (fail)
        go_wp2
        go_ret2
        have hh := HX.out
        rw [if_pos k1] at hh
        exact ⟨ret_two hh rfl, below_drewN hB2 _⟩
      · by_cases k2 : c * b < a * d
        · go_wp2
          go_quiet (fail)
          go_wp2
          go_ret2
          have hh := HX.out
          rw [if_neg (by omega), if_pos k2] at hh
          exact ⟨ret_two hh rfl, below_drewN hB2 _⟩
        · go_wp2
          go_quiet (fail)
          go_wp2
          go_ret2
          have hh := HX.out
          rw [if_neg (by omega), if_neg (by omega)] at hh
          exact ⟨ret_two hh rfl, below_drewN hB2 _⟩

theorem toFr_any (a b : Int) (w : World) : Calls Try.prog 18 #[.agg #[.int .i64 a, .int .i64 b]] w fun e w' => e = .returned (.agg #[.int .i64 a, .int .i64 b]) ∧ Below w.heap.size w w' := by
  go_enter Try.func18, Try.ntmps18
  go_wp2
  go_returns
  exact ⟨rfl, by go_grown⟩
end Go.Proofs.Ythokpdhknohpoaa
