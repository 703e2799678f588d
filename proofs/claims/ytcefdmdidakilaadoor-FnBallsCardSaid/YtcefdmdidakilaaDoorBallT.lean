/-
  No statement is proved here: how many turns a length makes in a ball, and how long turns of a ball are, as the program and as the document's own text tell it; condition: the program's errors lie where its text lays them.
-/
import Derived.Test.YtcefdmdidakilaaDoorBall
import Derived.Test.YtcefdmdidakilaaDoorSumOf
namespace Go.Proofs.YtcefdmdidakilaaDoor
open Go.ChangeShapes Go.WideShapes Go.ChangeAt Go.RowKit

set_option maxRecDepth 100000 in
set_option maxHeartbeats 2000000 in
theorem specBallTurns_any (l s g y : Int) (w : World) :
    Calls Tryd.prog 9 #[.int .i64 l, .int .i64 s, .int .i64 g, .int .i64 y] w fun e w' => e = .returned (.tuple #[.int .i64 (ballF l s g y).1, .int .i64 (ballF l s g y).2.1, .int .i64 (ballF l s g y).2.2]) ∧ w = w' := by
  have H1 := Lib.hid fun wx => l04Long_any l wx
  have H2 := Lib.hid fun wx => l04Ball_any s g y wx
  cases h1 : inB l 0 100000 with
  | false =>
    rw [ballF_no (by rw [h1]; rfl)]
    rw [h1] at H1
    go_enter Tryd.func9, Tryd.ntmps9
    go_wp2_with fail
    refine (H1.out _).mono ?_
    rintro e w' ⟨rfl, rfl⟩
    go_wp2
    go_ret3
    exact ⟨rfl, rfl⟩
  | true =>
    cases h2 : ballB s g y with
    | false =>
      rw [ballF_no (by rw [h2]; simp)]
      rw [h1] at H1
      rw [h2] at H2
      go_enter Tryd.func9, Tryd.ntmps9
      go_wp2_with fail
      refine (H1.out _).mono ?_
      rintro e w' ⟨rfl, rfl⟩
      go_wp2_with fail
      refine (H2.out _).mono ?_
      rintro e w' ⟨rfl, rfl⟩
      go_wp2
      go_ret3
      exact ⟨rfl, rfl⟩
    | true =>
      have JF := Lib.hid fun k hk x hx => ballF_yes (l := l) (s := s) (g := g) (y := y) (by rw [h1, h2]; rfl) (k := k) hk (x := x) hx
      generalize ballF l s g y = out at *
      rw [h1] at H1
      rw [h2] at H2
      obtain ⟨l0, l1⟩ := inB_of h1
      have HB := Lib.hid h2
      obtain ⟨_, _, y1, y2⟩ := ballB_of h2
      have u7 : (y == 0) = false := by rw [beq_eq_false_iff_ne]; omega
      obtain ⟨L, hL⟩ : ∃ L, L = l := ⟨_, rfl⟩
      rw [← hL] at JF
      have HL := Lib.hid hL
      clear h1 h2 hL
      go_enter Tryd.func9, Tryd.ntmps9
      go_wp2_with fail
      refine (H1.out _).mono ?_
      rintro e w' ⟨rfl, rfl⟩
      go_wp2_with fail
      refine (H2.out _).mono ?_
      rintro e w' ⟨rfl, rfl⟩
      go_wp2_with fail
      go_loop [0, 11] (fun a i => ∃ (k : Nat) (x : Int), a = .int .i64 x ∧ i = .int .i64 k ∧ 0 ≤ x ∧ (k : Int) + x ≤ 100000 ∧ Hid (∀ j, j < k → bturn s g y j ≤ L - bsum s g y j) ∧ Hid (x = L - bsum s g y k)) (fun a _ => (intOf a).toNat)
      case atStart => exact ⟨0, l, rfl, rfl, l0, by simpa using l1, fun j hj => by omega, Lib.hid (by rw [HL.out]; simp [bsum])⟩
      case round =>
        obtain ⟨k, x, rfl, rfl, hx0, hkx, hJ, hX⟩ := hrel
        obtain ⟨q, m, t, hq, hm, ht, hts, ht1, hm1, u1, u2, u3, u4, u5, u6⟩ := turn_wraps HB.out k (by omega)
        have HT := Lib.hid ht
        clear hq hm ht hts
        by_cases hlt : t ≤ x
        · have hJ2 := Lib.hid (show ∀ j, j < k + 1 → bturn s g y j ≤ L - bsum s g y j from fun j hj => by
            by_cases hjk : j = k
            · subst hjk; rw [HT.out, ← hX.out]; exact hlt
            · exact hJ.out j (by omega))
          have hX2 := Lib.hid (show x - t = L - bsum s g y (k + 1) by rw [bsum, HT.out]; have := hX.out; omega)
          clear hJ hX
          go_wp2
          go_round
          case rel => exact ⟨k + 1, x - t, by go_num, by go_num, by omega, by omega, hJ2, hX2⟩
          case measure => simp [intOf]; omega
        · have hlt2 : x < t := by omega
          have hE := Lib.hid (JF.out k ⟨hJ.out, by rw [HT.out, ← hX.out]; omega⟩ x hX.out)
          clear hJ hX
          go_wp2
          go_ret3
          exact ⟨by rw [hE.out]; rfl, rfl⟩

/-- A ball that lies in a block. -/
def BallAt (w : World) (b : Nat) (s g y : Int) : Prop := w.cell? ⟨b, 0, none⟩ = some (.int .i64 s) ∧ w.cell? ⟨b, 1, none⟩ = some (.int .i64 g) ∧ w.cell? ⟨b, 2, none⟩ = some (.int .i64 y)
theorem BallAt.below {w w' : World} {b : Nat} {s g y : Int} {B : Nat} (h : BallAt w b s g y) (hB : Below B w w') (hb : b < B) : BallAt w' b s g y :=
  ⟨(hB.cell (p := ⟨b, 0, none⟩) hb).trans h.1, (hB.cell (p := ⟨b, 1, none⟩) hb).trans h.2.1, (hB.cell (p := ⟨b, 2, none⟩) hb).trans h.2.2⟩

set_option maxRecDepth 100000 in
set_option maxHeartbeats 2000000 in
theorem implBallTurns_any (p : Nat → Addr) (l s g y : Int) (w : World) (hs : Sent w p) :
    Calls Tryd.prog 8 #[.int .i64 l, .int .i64 s, .int .i64 g, .int .i64 y] w fun e w' => e = .returned (.tuple #[.int .i64 (ballF l s g y).1, .int .i64 (ballF l s g y).2.1, .int .i64 (ballF l s g y).2.2]) ∧ Below w.heap.size w w' := by
  have HS := Lib.hid hs
  have q1 := neqNil_err
  have q2 := neqNil_nil
  clear hs
  have C := Lib.hid fun wx hx => ballCheck_any p s g y l 0 100000 wx hx
  cases h : (inB l 0 100000 && ballB s g y) with
  | false =>
    rw [ballF_no h]
    rw [h, errIn_no] at C
    have HC := Lib.hid fun wx hx => codeOf_err (p := p) 1 (by omega) wx hx
    clear h
    go_enter Tryd.func8, Tryd.ntmps8
    go_wp2_with fail
    refine (C.out _ (HS.out.below ((Below.refl _ _).alloc (Nat.le_refl _) _))).mono ?_
    rintro e w2 ⟨rfl, hB⟩
    have B2 := Lib.hid (((Below.refl w.heap.size w).alloc (Nat.le_refl _) _).trans (hB.mono (by simp)))
    clear hB
    go_wp2_with fail
    refine (HC.out _ (HS.out.below B2.out)).mono ?_
    rintro e w' ⟨rfl, rfl⟩
    go_wp2
    go_ret3
    exact ⟨rfl, B2.out⟩
  | true =>
    have JF := Lib.hid fun k hk x hx => ballF_yes (l := l) (s := s) (g := g) (y := y) h (k := k) hk (x := x) hx
    generalize ballF l s g y = out at *
    rw [h, errIn_yes] at C
    have h2 : inB l 0 100000 = true ∧ ballB s g y = true := by simpa using h
    obtain ⟨l0, l1⟩ := inB_of h2.1
    have HB := Lib.hid h2.2
    clear h h2
    obtain ⟨B, hBe⟩ : ∃ B, B = w.heap.size := ⟨_, rfl⟩
    rw [← hBe]
    have HBe := Lib.hid hBe
    clear hBe
    go_enter Tryd.func8, Tryd.ntmps8
    go_wp2_with fail
    refine (C.out _ (HS.out.below ((Below.refl _ _).alloc (Nat.le_refl _) _))).mono ?_
    rintro e w2 ⟨rfl, hB⟩
    have B2 := Lib.hid (((Below.refl w.heap.size w).alloc (Nat.le_refl _) (.cells #[.int .i64 s, .int .i64 g, .int .i64 y] 42)).trans (hB.mono (by simp)))
    have A2 := Lib.hid (BallAt.below (s := s) (g := g) (y := y) (w := w.alloc (.cells #[.int .i64 s, .int .i64 g, .int .i64 y] 42)) (b := w.heap.size) ⟨by simp [go_sem], by simp [go_sem], by simp [go_sem]⟩ hB (by simp))
    have Z2 := Lib.hid (show w.heap.size < w2.heap.size by have := hB.size; simp at this; omega)
    rw [← HBe.out] at B2 A2 Z2 ⊢
    clear hB
    go_wp2_with fail
    go_loopw [13, 14] (fun i a wr => ∃ (k : Nat) (x : Int), a = .int .i64 x ∧ i = .int .i64 k ∧ 0 ≤ x ∧ (k : Int) + x ≤ 100000 ∧ Hid (∀ j, j < k → bturn s g y j ≤ l - bsum s g y j) ∧ Hid (x = l - bsum s g y k) ∧ Hid (Below B w wr) ∧ Hid (BallAt wr B s g y) ∧ Hid (B < wr.heap.size)) (fun _ a _ => (intOf a).toNat)
    case atStart => exact ⟨0, l, rfl, rfl, l0, by simpa using l1, fun j hj => by omega, Lib.hid (by simp [bsum]), B2, A2, Z2⟩
    case round =>
      obtain ⟨k, x, rfl, rfl, hx0, hkx, hJ, hX, hBe, hA, hZ⟩ := hrel
      have HT := Lib.hid fun wx => ballTurn_any HB.out k (by omega) wx
      have ht1 := (bturn_bd HB.out k (by omega)).2.2
      obtain ⟨t, ht⟩ : ∃ t, t = bturn s g y k := ⟨_, rfl⟩
      rw [← ht] at HT ht1
      have HTt := Lib.hid ht.symm
      clear ht
      obtain ⟨a0, a1, a2⟩ := hA.out
      by_cases hlt : t ≤ x
      · have hJ2 := Lib.hid (show ∀ j, j < k + 1 → bturn s g y j ≤ l - bsum s g y j from fun j hj => by
          by_cases hjk : j = k
          · subst hjk; rw [HTt.out, ← hX.out]; exact hlt
          · exact hJ.out j (by omega))
        have hX2 := Lib.hid (show x - t = l - bsum s g y (k + 1) by rw [bsum, HTt.out]; have := hX.out; omega)
        clear hJ hX
        go_wp2_with fail
        refine (HT.out _).mono ?_
        rintro e w3 ⟨rfl, hB⟩
        have B3 := Lib.hid (hBe.out.trans (hB.mono (Nat.le_of_lt hZ.out)))
        have A3 := Lib.hid (hA.out.below hB hZ.out)
        have Z3 := Lib.hid (Nat.lt_of_lt_of_le hZ.out hB.size)
        clear hB a0 a1 a2
        obtain ⟨a0, a1, a2⟩ := A3.out
        go_wp2_with fail
        refine (HT.out _).mono ?_
        rintro e w4 ⟨rfl, hB⟩
        have B4 := Lib.hid (B3.out.trans (hB.mono (Nat.le_of_lt Z3.out)))
        have A4 := Lib.hid (A3.out.below hB Z3.out)
        have Z4 := Lib.hid (Nat.lt_of_lt_of_le Z3.out hB.size)
        clear hB a0 a1 a2
        go_wp2
        go_roundw
        case rel => exact ⟨k + 1, x - t, by go_num, by go_num, by omega, by omega, hJ2, hX2, B4, A4, Z4⟩
        case measure => simp [intOf]; omega
      · have hlt2 : x < t := by omega
        have hE := Lib.hid (JF.out k ⟨hJ.out, by rw [HTt.out, ← hX.out]; omega⟩ x hX.out)
        clear hJ hX
        go_wp2_with fail
        refine (HT.out _).mono ?_
        rintro e w3 ⟨rfl, hB⟩
        have B3 := Lib.hid (hBe.out.trans (hB.mono (Nat.le_of_lt hZ.out)))
        clear hB a0 a1 a2
        go_wp2
        go_ret3
        exact ⟨by rw [hE.out]; rfl, B3.out⟩
end Go.Proofs.YtcefdmdidakilaaDoor
