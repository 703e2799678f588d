/-
  No statement is proved here: turns that yarn makes, as the program and as the document's own text tell them; condition: the program's errors lie where its text lays them.
-/
import Derived.Test.YtcefdmdidakilaaDoorWithin
import Derived.OwnWalk
namespace Go.Proofs.YtcefdmdidakilaaDoor
open Go.ChangeShapes Go.WideShapes Go.ChangeAt Go.RowKit

/-- What TurnsFor answers. -/
def turnsF (l r : Int) : Int × Int × Int := if (inB l 0 100000 && inB r 1 500) = true then (l.tdiv r, l.tmod r, 0) else (0, 0, 2)
theorem turnsF_yes {l r : Int} (h : (inB l 0 100000 && inB r 1 500) = true) : turnsF l r = (l.tdiv r, l.tmod r, 0) := if_pos h
theorem turnsF_no {l r : Int} (h : (inB l 0 100000 && inB r 1 500) = false) : turnsF l r = (0, 0, 2) := by unfold turnsF; rw [h]; rfl
theorem turns_bd {l r : Int} (h : (inB l 0 100000 && inB r 1 500) = true) : (1 ≤ r ∧ r ≤ 500) ∧ (0 ≤ l.tdiv r ∧ l.tdiv r ≤ 100000) ∧ (0 ≤ l.tmod r ∧ l.tmod r ≤ 500) := by
  rw [Bool.and_eq_true] at h
  obtain ⟨h1, h2⟩ := inB_of h.1
  obtain ⟨h3, h4⟩ := inB_of h.2
  refine ⟨⟨h3, h4⟩, ?_, ?_⟩
  · rw [Int.tdiv_eq_ediv_of_nonneg h1]
    refine ⟨Int.ediv_nonneg h1 (by omega), ?_⟩
    exact Int.le_trans (Int.ediv_le_self r h1) h2
  · rw [Int.tmod_eq_emod_of_nonneg h1]
    exact ⟨Int.emod_nonneg _ (by omega), by have := Int.emod_lt_of_pos l (show 0 < r by omega); omega⟩

theorem l04Long_any (n : Int) (w : World) :
    Calls Tryd.prog 16 #[.int .i64 n] w fun e w' => e = .returned (.bool (inB n 0 100000)) ∧ w = w' := by
  have H := Lib.hid (in_any n 0 100000 w)
  go_enter Tryd.func16, Tryd.ntmps16
  go_wp2_with fail
  refine H.out.mono ?_
  rintro e w' ⟨rfl, rfl⟩
  go_wp2
  go_ret
  exact ⟨rfl, rfl⟩
theorem l04Round_any (n : Int) (w : World) :
    Calls Tryd.prog 17 #[.int .i64 n] w fun e w' => e = .returned (.bool (inB n 1 500)) ∧ w = w' := by
  have H := Lib.hid (in_any n 1 500 w)
  go_enter Tryd.func17, Tryd.ntmps17
  go_wp2_with fail
  refine H.out.mono ?_
  rintro e w' ⟨rfl, rfl⟩
  go_wp2
  go_ret
  exact ⟨rfl, rfl⟩

set_option maxHeartbeats 2000000 in
theorem specTurns_any (l r : Int) (w : World) :
    Calls Tryd.prog 7 #[.int .i64 l, .int .i64 r] w fun e w' => e = .returned (.tuple #[.int .i64 (turnsF l r).1, .int .i64 (turnsF l r).2.1, .int .i64 (turnsF l r).2.2]) ∧ Below w.heap.size w w' := by
  have H1 := Lib.hid fun wx => l04Long_any l wx
  have H2 := Lib.hid fun wx => l04Round_any r wx
  cases h1 : inB l 0 100000 with
  | false =>
    rw [turnsF_no (by rw [h1]; rfl)]
    rw [h1] at H1
    go_enter Tryd.func7, Tryd.ntmps7
    go_wp2_with fail
    refine (H1.out _).mono ?_
    rintro e w' ⟨rfl, rfl⟩
    go_wp2
    go_ret3
    exact ⟨rfl, Below.refl _ _⟩
  | true =>
    cases h2 : inB r 1 500 with
    | false =>
      rw [turnsF_no (by rw [h2]; simp)]
      rw [h1] at H1
      rw [h2] at H2
      go_enter Tryd.func7, Tryd.ntmps7
      go_wp2_with fail
      refine (H1.out _).mono ?_
      rintro e w' ⟨rfl, rfl⟩
      go_wp2_with fail
      refine (H2.out _).mono ?_
      rintro e w' ⟨rfl, rfl⟩
      go_wp2
      go_ret3
      exact ⟨rfl, Below.refl _ _⟩
    | true =>
      have hb := turns_bd (l := l) (r := r) (by rw [h1, h2]; rfl)
      rw [turnsF_yes (by rw [h1, h2]; rfl)]
      rw [h1] at H1
      rw [h2] at H2
      clear h1 h2
      obtain ⟨⟨r1, r2⟩, ⟨d1, d2⟩, m1, m2⟩ := hb
      have z1 : r ≠ 0 := by omega
      have z2 : (r == 0) = false := by simp [z1]
      have u1 : ∀ [Inhabited Nat], IntKind.i64.wrap (l.tdiv r) = l.tdiv r := by intro _; exact (IntWalk.i64_in _ (by omega)).trans (by omega)
      have u2 : ∀ [Inhabited Nat], wrap64 (l.tdiv r) = l.tdiv r := by intro _; exact (IntWalk.wrap64_in _ (by omega)).trans (by omega)
      have u3 : ∀ [Inhabited Nat], IntKind.i64.wrap (l.tmod r) = l.tmod r := by intro _; exact (IntWalk.i64_in _ (by omega)).trans (by omega)
      have u4 : ∀ [Inhabited Nat], wrap64 (l.tmod r) = l.tmod r := by intro _; exact (IntWalk.wrap64_in _ (by omega)).trans (by omega)
      go_enter Tryd.func7, Tryd.ntmps7
      go_wp2_with fail
      refine (H1.out _).mono ?_
      rintro e w' ⟨rfl, rfl⟩
      go_wp2_with fail
      refine (H2.out _).mono ?_
      rintro e w' ⟨rfl, rfl⟩
      go_wp2_with fail
      go_quiet (fail)
      go_wp2
      go_ret3
      exact ⟨rfl, bdN _ _⟩

set_option maxRecDepth 100000 in
set_option maxHeartbeats 2000000 in
theorem implTurns_any (p : Nat → Addr) (l r : Int) (w : World) (hs : Sent w p) :
    Calls Tryd.prog 6 #[.int .i64 l, .int .i64 r] w fun e w' => e = .returned (.tuple #[.int .i64 (turnsF l r).1, .int .i64 (turnsF l r).2.1, .int .i64 (turnsF l r).2.2]) ∧ Below w.heap.size w w' := by
  have HS := Lib.hid hs
  have q1 := neqNil_err
  have q2 := neqNil_nil
  clear hs
  have C := Lib.hid fun b cap wx h h0 h1 => check2_any p b cap l 0 100000 r 1 500 wx h h0 h1
  cases h : (inB l 0 100000 && inB r 1 500) with
  | false =>
    rw [turnsF_no h]
    rw [h, errIn_no] at C
    have HC := Lib.hid fun wx hx => codeOf_err (p := p) 1 (by omega) wx hx
    clear h
    go_enter Tryd.func6, Tryd.ntmps6
    go_wp2_with fail
    refine (C.out _ _ _ (HS.out.below ((Below.refl _ _).alloc (Nat.le_refl _) _)) (by simp [go_sem]) (by simp [go_sem])).mono ?_
    rintro e w2 ⟨rfl, hB⟩
    have B2 := Lib.hid (((Below.refl w.heap.size w).alloc (Nat.le_refl _) _).trans (hB.mono (by simp)))
    clear hB
    go_wp2_with fail
    refine (HC.out _ (HS.out.below B2.out)).mono ?_
    rintro e w' ⟨rfl, rfl⟩
    go_wp2
    go_ret3
    exact ⟨rfl, B2.out⟩
  | true =>
    have hb := turns_bd h
    rw [turnsF_yes h]
    rw [h, errIn_yes] at C
    clear h
    obtain ⟨⟨r1, r2⟩, ⟨d1, d2⟩, m1, m2⟩ := hb
    have z1 : r ≠ 0 := by omega
    have z2 : (r == 0) = false := by simp [z1]
    have u1 : ∀ [Inhabited Nat], IntKind.i64.wrap (l.tdiv r) = l.tdiv r := by intro _; exact (IntWalk.i64_in _ (by omega)).trans (by omega)
    have u2 : ∀ [Inhabited Nat], wrap64 (l.tdiv r) = l.tdiv r := by intro _; exact (IntWalk.wrap64_in _ (by omega)).trans (by omega)
    have u3 : ∀ [Inhabited Nat], IntKind.i64.wrap (l.tmod r) = l.tmod r := by intro _; exact (IntWalk.i64_in _ (by omega)).trans (by omega)
    have u4 : ∀ [Inhabited Nat], wrap64 (l.tmod r) = l.tmod r := by intro _; exact (IntWalk.wrap64_in _ (by omega)).trans (by omega)
    go_enter Tryd.func6, Tryd.ntmps6
    go_wp2_with fail
    refine (C.out _ _ _ (HS.out.below ((Below.refl _ _).alloc (Nat.le_refl _) _)) (by simp [go_sem]) (by simp [go_sem])).mono ?_
    rintro e w2 ⟨rfl, hB⟩
    have B2 := Lib.hid (((Below.refl w.heap.size w).alloc (Nat.le_refl _) _).trans (hB.mono (by simp)))
    clear hB
    go_wp2_with fail
    go_quiet (fail)
    go_wp2
    go_ret3
    exact ⟨rfl, B2.out.trans ((bdN _ _).mono B2.out.size)⟩
end Go.Proofs.YtcefdmdidakilaaDoor
