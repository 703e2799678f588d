/-
  No statement is proved here: what the functions that ask whether a fraction is told in its lowest terms return; no condition but that its numbers are int64s.
-/
import Derived.Test.YthokpdhknohpoaaEqFrac
import Derived.Deep.RegionHeld3
import Derived.Deep.RegionWith
namespace Go.Proofs.Ythokpdhknohpoaa
open Go.RowKit

/-- Is a fraction told in its lowest terms? -/
def toldB (n d : Int) : Bool := billB n && billB d && decide (0 < d) && decide (lowN n d = n ∧ lowD n d = d)

theorem held_next {w W w' : World} {n d : Int}
    (h : W.cell? ⟨w.heap.size, 0, none⟩ = some (.int .i64 n) ∧ W.cell? ⟨w.heap.size, 1, none⟩ = some (.int .i64 d) ∧ Below w.heap.size w W ∧ w.heap.size < W.heap.size) (hB : Below W.heap.size W w') :
    w'.cell? ⟨w.heap.size, 0, none⟩ = some (.int .i64 n) ∧ w'.cell? ⟨w.heap.size, 1, none⟩ = some (.int .i64 d) ∧ Below w.heap.size w w' ∧ w.heap.size < w'.heap.size :=
  ⟨(hB.cell (p := ⟨w.heap.size, 0, none⟩) h.2.2.2).trans h.1, (hB.cell (p := ⟨w.heap.size, 1, none⟩) h.2.2.2).trans h.2.1, h.2.2.1.trans (hB.mono (Nat.le_of_lt h.2.2.2)), Nat.lt_of_lt_of_le h.2.2.2 hB.size⟩

set_option maxHeartbeats 1000000 in
theorem told_any (n d : Int) (w : World) : Calls Try.prog 48 #[.agg #[.int .i64 n, .int .i64 d]] w fun e w' => e = .returned (.bool (toldB n d)) ∧ Below w.heap.size w w' := by
  cases hn : billB n with
  | false =>
    have ht : toldB n d = false := by simp [toldB, hn]
    rw [ht]
    clear ht
    go_enter Try.func48, Try.ntmps48
    go_wp2
    go_quiet ((go_at_call 44; exact Calls.quiet_of_same ((billion_any _ _).mono fun _ _ ⟨he, hw⟩ => ⟨by rw [he, hn], hw.symm⟩)))
    go_wp2
    go_ret
    refine ⟨rfl, ?_⟩
    go_grown
    refine below_drewN ?_ _
    go_grown
  | true =>
    cases hd : billB d with
    | false =>
      have ht : toldB n d = false := by simp [toldB, hd]
      rw [ht]
      clear ht
      go_enter Try.func48, Try.ntmps48
      go_wp2
      go_quiet ((go_at_call 44; first | exact Calls.quiet_of_same ((billion_any n _).mono fun _ _ ⟨he, hw⟩ => ⟨by rw [he, hn], hw.symm⟩) | exact Calls.quiet_of_same ((billion_any d _).mono fun _ _ ⟨he, hw⟩ => ⟨by rw [he, hd], hw.symm⟩)))
      go_wp2
      go_ret
      refine ⟨rfl, ?_⟩
      go_grown
      refine below_drewN ?_ _
      go_grown
    | true =>
      have b1 := billB_of hn
      have b2 := billB_of hd
      by_cases hp : 0 < d
      · have hmk := Lib.hid fun wx => make_any n d wx (by omega) (by omega) hp (by omega)
        have hl : (decide (lowN n d = n ∧ lowD n d = d)) = toldB n d := by simp [toldB, hn, hd, hp]
        have HL := Lib.hid hl
        clear hl
        generalize toldB n d = tb at *
        generalize lowN n d = ln at *
        generalize lowD n d = ld at *
        have hq := fun wx => eqFrac_in ln ld n d wx
        rw [HL.out] at hq
        clear HL
        go_enter Try.func48, Try.ntmps48
        go_wp2
        go_region_held3 (fun w' => w'.cell? ⟨w.heap.size, 0, none⟩ = some (.int .i64 n) ∧ w'.cell? ⟨w.heap.size, 1, none⟩ = some (.int .i64 d) ∧ Below w.heap.size w w' ∧ w.heap.size < w'.heap.size)
          (first | exact ⟨by simp [go_sem], by simp [go_sem], by go_grown, by simp⟩ | assumption | (refine held_next ?_ hB; assumption))
          (first | (go_at_call 44; refine (billion_any _ _).mono ?_; rintro e w' ⟨rfl, rfl⟩) | (go_at_call 45; refine (hmk.out _).mono ?_; rintro e w' ⟨rfl, hB⟩))
        go_wp2
        go_ret
        exact ⟨rfl, ((Below.refl _ _).alloc (Nat.le_refl _) _).drew.trans (hB.mono (by simp))⟩
      · have ht : toldB n d = false := by simp [toldB, hp]
        rw [ht]
        clear ht
        have hp2 : decide (0 < d) = false := by simp; omega
        go_enter Try.func48, Try.ntmps48
        go_wp2
        go_quiet ((go_at_call 44; first | exact Calls.quiet_of_same ((billion_any n _).mono fun _ _ ⟨he, hw⟩ => ⟨by rw [he, hn], hw.symm⟩) | exact Calls.quiet_of_same ((billion_any d _).mono fun _ _ ⟨he, hw⟩ => ⟨by rw [he, hd], hw.symm⟩)))
        go_wp2
        go_ret
        refine ⟨rfl, ?_⟩
        go_grown
        refine below_drewN ?_ _
        go_grown

theorem held_below {w w' : World} {p q : Prop} (h : p ∧ q ∧ Below w.heap.size w w' ∧ w.heap.size < w'.heap.size) : Below w.heap.size w w' := h.2.2.1

set_option maxHeartbeats 1000000 in
theorem isTold_any (n d : Int) (w : World) : Calls Try.prog 49 #[.agg #[.int .i64 n, .int .i64 d]] w fun e w' => e = .returned (.bool (toldB n d)) ∧ Below w.heap.size w w' := by
  have hsm := fun wx => small_any n d wx
  cases hs : (billB n && billB d) with
  | false =>
    have ht : toldB n d = false := by simp [toldB, hs]
    rw [ht]
    clear ht
    rw [hs] at hsm
    have HS := Lib.hid hsm
    clear hsm hs
    go_enter Try.func49, Try.ntmps49
    go_wp2
    first
      | (go_region_with (go_at_call 46; refine (HS.out _).mono ?_; rintro e w' ⟨rfl, hB⟩))
      | fail
    all_goals
      go_wp2
      go_ret
      exact ⟨rfl, ((Below.refl _ _).alloc (Nat.le_refl _) _).drew.trans (hB.mono (by simp))⟩
  | true =>
    rw [hs] at hsm
    have HS := Lib.hid hsm
    clear hsm
    by_cases hp : 0 < d
    · rw [Bool.and_eq_true] at hs
      have b1 := billB_of hs.1
      have b2 := billB_of hs.2
      have hmk := Lib.hid fun wx => reduced_any n d wx (by omega) (by omega) (by omega) (by omega) (by omega)
      have hl : (decide (n = lowN n d ∧ d = lowD n d)) = toldB n d := by
        simp only [toldB, hs.1, hs.2, hp, decide_true, Bool.and_self, Bool.true_and]
        rw [decide_eq_decide]
        exact ⟨fun h => ⟨h.1.symm, h.2.symm⟩, fun h => ⟨h.1.symm, h.2.symm⟩⟩
      generalize toldB n d = tb at *
      generalize lowN n d = ln at *
      generalize lowD n d = ld at *
      have hq := fun wx => eqFrac_in n d ln ld wx
      rw [hl] at hq
      clear hl hs
      go_enter Try.func49, Try.ntmps49
      go_wp2
      go_region_held3 (fun w' => w'.cell? ⟨w.heap.size, 0, none⟩ = some (.int .i64 n) ∧ w'.cell? ⟨w.heap.size, 1, none⟩ = some (.int .i64 d) ∧ Below w.heap.size w w' ∧ w.heap.size < w'.heap.size)
        (first | exact ⟨by simp [go_sem], by simp [go_sem], by go_grown, by simp⟩ | assumption | (refine held_next ?_ hB; assumption))
        (first | (go_at_call 46; refine (HS.out _).mono ?_; rintro e w' ⟨rfl, hB⟩) | (go_at_call 47; refine (hmk.out _).mono ?_; rintro e w' ⟨rfl, hB⟩))
      go_wp2
      go_ret
      exact ⟨rfl, held_below (by assumption)⟩
    · have ht : toldB n d = false := by simp [toldB, hp]
      rw [ht]
      clear ht hs
      have hp2 : decide (0 < d) = false := by simp; omega
      go_enter Try.func49, Try.ntmps49
      go_wp2
      first
        | (go_region_with (go_at_call 46; refine (HS.out _).mono ?_; rintro e w' ⟨rfl, hB⟩; have c1 : w'.cell? ⟨w.heap.size, 1, none⟩ = some (.int .i64 d) := (hB.cell (p := ⟨w.heap.size, 1, none⟩) (by simp)).trans (by simp [go_sem])))
        | fail
      all_goals
        go_wp2
        go_ret
        exact ⟨rfl, ((Below.refl _ _).alloc (Nat.le_refl _) _).drew.trans (hB.mono (by simp))⟩
end Go.Proofs.Ythokpdhknohpoaa
