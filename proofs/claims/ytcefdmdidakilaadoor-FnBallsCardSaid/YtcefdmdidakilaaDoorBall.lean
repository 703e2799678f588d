/-
  No statement is proved here: a ball's turns, how long they are and how many a length makes, as the program and as the document's own text tell them; condition: the program's errors lie where its text lays them.
-/
import Derived.Test.YtcefdmdidakilaaDoorTurns
namespace Go.Proofs.YtcefdmdidakilaaDoor
open Go.ChangeShapes Go.WideShapes Go.ChangeAt Go.RowKit

/-- A ball that may be. -/
def ballB (s g y : Int) : Bool := inB s 1 500 && inB g 0 500 && inB y 1 100
theorem ballB_of {s g y : Int} (h : ballB s g y = true) : (1 ≤ s ∧ s ≤ 500) ∧ (0 ≤ g ∧ g ≤ 500) ∧ (1 ≤ y ∧ y ≤ 100) := by
  unfold ballB at h
  rw [Bool.and_eq_true, Bool.and_eq_true] at h
  exact ⟨inB_of h.1.1, inB_of h.1.2, inB_of h.2⟩
/-- How long the turn behind k others is, and how long the first k are. -/
def bturn (s g y : Int) (k : Nat) : Int := s + (k : Int) / y * g
def bsum (s g y : Int) : Nat → Int
  | 0 => 0
  | k + 1 => bsum s g y k + bturn s g y k
theorem bturn_bd {s g y : Int} (h : ballB s g y = true) (k : Nat) (hk : k ≤ 100000) :
    (0 ≤ (k : Int) / y ∧ (k : Int) / y ≤ 100000) ∧ (0 ≤ (k : Int) / y * g ∧ (k : Int) / y * g ≤ 50000000) ∧ (1 ≤ bturn s g y k ∧ bturn s g y k ≤ 50000500) := by
  obtain ⟨⟨s1, s2⟩, ⟨g1, g2⟩, y1, y2⟩ := ballB_of h
  have hq0 : 0 ≤ (k : Int) / y := by exact Int.ediv_nonneg (by omega) (by omega)
  have hq1 : (k : Int) / y ≤ 100000 := by
    exact Int.le_trans (Int.ediv_le_self y (by omega)) (by omega)
  have hm0 : 0 ≤ (k : Int) / y * g := Int.mul_nonneg hq0 g1
  have hm1 : (k : Int) / y * g ≤ 100000 * 500 := Int.mul_le_mul hq1 g2 g1 (by omega)
  exact ⟨⟨hq0, hq1⟩, ⟨hm0, by omega⟩, by unfold bturn; omega, by unfold bturn; omega⟩
theorem bsum_ge {s g y : Int} (h : ballB s g y = true) : ∀ k : Nat, k ≤ 100001 → (k : Int) ≤ bsum s g y k
  | 0, _ => by simp [bsum]
  | k + 1, hk => by
    have ih := bsum_ge h k (by omega)
    have := (bturn_bd h k (by omega)).2.2.1
    rw [bsum]
    omega
/-- So many whole turns a length makes. -/
def IsBall (s g y l : Int) (k : Nat) : Prop := (∀ j, j < k → bturn s g y j ≤ l - bsum s g y j) ∧ l - bsum s g y k < bturn s g y k
theorem isBall_one {s g y l : Int} {k m : Nat} (h : IsBall s g y l k) (h' : IsBall s g y l m) : k = m := by
  rcases Nat.lt_trichotomy k m with hlt | rfl | hlt
  · exact absurd h.2 (by have := h'.1 k hlt; omega)
  · rfl
  · exact absurd h'.2 (by have := h.1 m hlt; omega)
open Classical in
noncomputable def ballN (s g y l : Int) : Nat := if h : ∃ k, IsBall s g y l k then Classical.choose h else 0
theorem ballN_is {s g y l : Int} {k : Nat} (h : IsBall s g y l k) : ballN s g y l = k := by
  have hx : ∃ k, IsBall s g y l k := ⟨k, h⟩
  unfold ballN
  rw [dif_pos hx]
  exact isBall_one (Classical.choose_spec hx) h
/-- What BallTurns answers. -/
noncomputable def ballF (l s g y : Int) : Int × Int × Int := if (inB l 0 100000 && ballB s g y) = true then ((ballN s g y l : Int), l - bsum s g y (ballN s g y l), 0) else (0, 0, 2)
theorem ballF_no {l s g y : Int} (h : (inB l 0 100000 && ballB s g y) = false) : ballF l s g y = (0, 0, 2) := by unfold ballF; rw [h]; rfl
theorem ballF_yes {l s g y : Int} (h : (inB l 0 100000 && ballB s g y) = true) {k : Nat} (hk : IsBall s g y l k) {x : Int} (hx : x = l - bsum s g y k) : ballF l s g y = ((k : Int), x, 0) := by
  unfold ballF
  rw [if_pos h, ballN_is hk, hx]
/-- What BallLength answers. -/
def lenF (n s g y : Int) : Int × Int := if (inB n 0 1000 && ballB s g y) = true then (bsum s g y n.toNat, 0) else (0, 2)
theorem lenF_no {n s g y : Int} (h : (inB n 0 1000 && ballB s g y) = false) : lenF n s g y = (0, 2) := by unfold lenF; rw [h]; rfl
theorem lenF_yes {n s g y : Int} (h : (inB n 0 1000 && ballB s g y) = true) {k : Nat} (hk : n = (k : Int)) {x : Int} (hx : x = bsum s g y k) : lenF n s g y = (x, 0) := by
  unfold lenF
  rw [if_pos h, hk, hx]
  rfl
theorem bsum_bd {s g y : Int} (h : ballB s g y = true) : ∀ k : Nat, k ≤ 1001 → 0 ≤ bsum s g y k ∧ bsum s g y k ≤ 50000500 * (k : Int)
  | 0, _ => by simp [bsum]
  | k + 1, hk => by
    have ih := bsum_bd h k (by omega)
    have := (bturn_bd h k (by omega)).2.2
    rw [bsum]
    omega
/-- The wraps of a turn's parts. -/
theorem turn_wraps {s g y : Int} (h : ballB s g y = true) (k : Nat) (hk : k ≤ 100000) : ∃ q m t : Int, (k : Int) / y = q ∧ q * g = m ∧ bturn s g y k = t ∧ t = s + m ∧ (1 ≤ t ∧ t ≤ 50000500) ∧ (0 ≤ m ∧ m ≤ 50000000) ∧
    (∀ [Inhabited Nat], IntKind.i64.wrap ((k : Int) / y) = q) ∧ (∀ [Inhabited Nat], wrap64 ((k : Int) / y) = q) ∧ (∀ [Inhabited Nat], IntKind.i64.wrap (q * g) = m) ∧ (∀ [Inhabited Nat], wrap64 (q * g) = m) ∧
    (∀ [Inhabited Nat], IntKind.i64.wrap (s + m) = t) ∧ (∀ [Inhabited Nat], wrap64 (s + m) = t) := by
  obtain ⟨⟨a1, a2⟩, ⟨b1, b2⟩, c1, c2⟩ := bturn_bd h k hk
  refine ⟨_, _, _, rfl, rfl, rfl, rfl, ⟨c1, c2⟩, ⟨b1, b2⟩, ?_, ?_, ?_, ?_, ?_, ?_⟩
  · intro _; exact (IntWalk.i64_in _ (by omega)).trans (by omega)
  · intro _; exact (IntWalk.wrap64_in _ (by omega)).trans (by omega)
  · intro _; exact (IntWalk.i64_in _ (by omega)).trans (by omega)
  · intro _; exact (IntWalk.wrap64_in _ (by omega)).trans (by omega)
  · intro _; unfold bturn at c1 c2; exact (IntWalk.i64_in _ (by omega)).trans (by unfold bturn; omega)
  · intro _; unfold bturn at c1 c2; exact (IntWalk.wrap64_in _ (by omega)).trans (by unfold bturn; omega)

theorem l04Ball_any (s g y : Int) (w : World) :
    Calls Tryd.prog 20 #[.int .i64 s, .int .i64 g, .int .i64 y] w fun e w' => e = .returned (.bool (ballB s g y)) ∧ w = w' := by
  have H1 := Lib.hid fun wx => l04Round_any s wx
  have H2 := Lib.hid fun wx => in_any g 0 500 wx
  have H3 := Lib.hid fun wx => in_any y 1 100 wx
  cases h1 : inB s 1 500 with
  | false =>
    rw [h1] at H1
    go_enter Tryd.func20, Tryd.ntmps20
    go_wp2_with fail
    refine (H1.out _).mono ?_
    rintro e w' ⟨rfl, rfl⟩
    go_wp2
    go_ret
    exact ⟨ret_bool (by unfold ballB; rw [h1]; rfl), rfl⟩
  | true =>
    cases h2 : inB g 0 500 with
    | false =>
      rw [h1] at H1
      rw [h2] at H2
      go_enter Tryd.func20, Tryd.ntmps20
      go_wp2_with fail
      refine (H1.out _).mono ?_
      rintro e w' ⟨rfl, rfl⟩
      go_wp2_with fail
      refine (H2.out _).mono ?_
      rintro e w' ⟨rfl, rfl⟩
      go_wp2
      go_ret
      exact ⟨ret_bool (by unfold ballB; rw [h1, h2]; rfl), rfl⟩
    | true =>
      rw [h1] at H1
      rw [h2] at H2
      go_enter Tryd.func20, Tryd.ntmps20
      go_wp2_with fail
      refine (H1.out _).mono ?_
      rintro e w' ⟨rfl, rfl⟩
      go_wp2_with fail
      refine (H2.out _).mono ?_
      rintro e w' ⟨rfl, rfl⟩
      go_wp2_with fail
      refine (H3.out _).mono ?_
      rintro e w' ⟨rfl, rfl⟩
      go_wp2
      go_ret
      exact ⟨ret_bool (by unfold ballB; rw [h1, h2]; rfl), rfl⟩

set_option maxRecDepth 100000 in
set_option maxHeartbeats 2000000 in
theorem ballTurn_any {s g y : Int} (h : ballB s g y = true) (k : Nat) (hk : k ≤ 100000) (w : World) :
    Calls Tryd.prog 19 #[.agg #[.int .i64 s, .int .i64 g, .int .i64 y], .int .i64 k] w fun e w' => e = .returned (.int .i64 (bturn s g y k)) ∧ Below w.heap.size w w' := by
  obtain ⟨q, m, t, hq, hm, ht, hts, ht1, hm1, u1, u2, u3, u4, u5, u6⟩ := turn_wraps h k hk
  obtain ⟨_, _, y1, y2⟩ := ballB_of h
  have u7 : (y == 0) = false := by rw [beq_eq_false_iff_ne]; omega
  rw [ht]
  clear hq hm ht hts h
  go_enter Tryd.func19, Tryd.ntmps19
  go_wp2_with fail
  go_quiet (fail)
  go_wp2
  go_ret
  exact ⟨rfl, ((Below.refl w.heap.size w).alloc (Nat.le_refl _) _).trans ((bdN _ _).mono (by simp))⟩

set_option maxRecDepth 100000 in
set_option maxHeartbeats 2000000 in
theorem ballCheck_any (p : Nat → Addr) (s g y n lo hi : Int) (w : World) (hs : Sent w p) :
    Calls Tryd.prog 18 #[.agg #[.int .i64 s, .int .i64 g, .int .i64 y], .agg #[.int .i64 n, .int .i64 lo, .int .i64 hi]] w fun e w' => e = .returned (errIn p (inB n lo hi && ballB s g y)) ∧ Below w.heap.size w w' := by
  have HS := Lib.hid hs
  clear hs
  have hO : (inB n lo hi && inB s 1 500 && inB g 0 500 && inB y 1 100) = (inB n lo hi && ballB s g y) := by unfold ballB; simp only [Bool.and_assoc]
  have C := Lib.hid fun b cap wx h h0 h1 h2 h3 => check4_any p b cap n lo hi s 1 500 g 0 500 y 1 100 wx h h0 h1 h2 h3
  rw [hO] at C
  generalize (inB n lo hi && ballB s g y) = r at *
  clear hO
  go_enter Tryd.func18, Tryd.ntmps18
  go_wp2_with fail
  refine (C.out _ _ _ (((HS.out.below ((Below.refl _ _).alloc (Nat.le_refl _) _)).below ((Below.refl _ _).alloc (Nat.le_refl _) _)).below ((Below.refl _ _).alloc (Nat.le_refl _) _)) (by simp [go_sem]) (by simp [go_sem]) (by simp [go_sem]) (by simp [go_sem])).mono ?_
  rintro e w2 ⟨rfl, hB⟩
  have B2 := Lib.hid (((((Below.refl w.heap.size w).alloc (Nat.le_refl _) _).alloc (by simp) _).alloc (by simp only [World.size_alloc]; omega) _).trans (hB.mono (by simp only [World.size_alloc]; omega)))
  clear hB
  go_wp2
  go_ret
  exact ⟨rfl, B2.out⟩
end Go.Proofs.YtcefdmdidakilaaDoor
