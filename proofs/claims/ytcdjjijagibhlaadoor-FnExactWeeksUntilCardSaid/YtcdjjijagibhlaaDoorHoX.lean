/-
  No statement is proved here: the week of holes in the program, whole; conditions as stated.
-/
import Derived.Test.YtcdjjijagibhlaaDoorHoW
namespace Go.Proofs.YtcdjjijagibhlaaDoor
open Go.ChangeShapes Go.WideShapes Go.ChangeAt Go.RowKit

/-- The new holes when the stitches before y, x have been gone through. -/
def stH (h : Nat → Int) (need : Int) (y x : Nat) : Nat → Int := fun k => if k < y then weekF h need k else if k = y then ((numTo (fun i => decide (i < x) && newH h need i y) 8 : Nat) : Int) else 0
theorem stH_at (h : Nat → Int) (need : Int) (y x : Nat) : stH h need y x y = ((numTo (fun i => decide (i < x) && newH h need i y) 8 : Nat) : Int) := by unfold stH; rw [if_neg (by omega), if_pos rfl]
theorem stH_other {h : Nat → Int} {need : Int} {y x x' k : Nat} (e : k ≠ y) : stH h need y x k = stH h need y x' k := by unfold stH; rw [if_neg e, if_neg e]
theorem stH_zero (h : Nat → Int) (need : Int) (k : Nat) : stH h need 0 0 k = 0 := by
  unfold stH
  rw [if_neg (by omega)]
  split
  · rfl
  · rfl
theorem stH_row (h : Nat → Int) (need : Int) (y k : Nat) : stH h need y 8 k = stH h need (y + 1) 0 k := by
  unfold stH
  by_cases h1 : k < y
  · rw [if_pos h1, if_pos (by omega)]
  · by_cases h2 : k = y
    · subst h2
      rw [if_neg (by omega), if_pos rfl, if_pos (by omega)]
      exact congrArg Nat.cast (numTo_congr 8 fun j hj => by simp [hj])
    · rw [if_neg h1, if_neg h2, if_neg (by omega)]
      split
      · rfl
      · rfl
theorem stH_all (h : Nat → Int) (need : Int) {k : Nat} (hk : k < 8) : stH h need 8 0 k = weekF h need k := by unfold stH; rw [if_pos hk]
theorem stH_no {h : Nat → Int} {need : Int} {y x : Nat} (e : newH h need x y = false) (k : Nat) : stH h need y (x + 1) k = stH h need y x k := by
  by_cases hk : k = y
  · subst hk
    rw [stH_at, stH_at]
    congr 1
    refine numTo_congr 8 fun j _ => ?_
    by_cases hj : j = x
    · subst hj; rw [e]; simp
    · have : decide (j < x + 1) = decide (j < x) := by rw [decide_eq_decide]; omega
      rw [this]
  · exact stH_other hk
theorem stH_yes {h : Nat → Int} {need : Int} {y x : Nat} (hx : x < 8) (e : newH h need x y = true) : bits BinOp.or IntKind.u8 (stH h need y x y) ((2 ^ x : Nat) : Int) = stH h need y (x + 1) y := by
  rw [stH_at, stH_at, or_num _ hx]
  congr 1
  refine numTo_congr 8 fun j _ => ?_
  by_cases hj : j = x
  · subst hj; rw [e]; simp
  · have h1 : decide (j < x + 1) = decide (j < x) := by rw [decide_eq_decide]; omega
    have h2 : (j == x) = false := by simp [hj]
    rw [h1, h2]
    simp
theorem stH_bd (h : Nat → Int) (need : Int) (y x k : Nat) : 0 ≤ stH h need y x k ∧ stH h need y x k ≤ 255 := by
  unfold stH
  split
  · have := numTo_lt (fun x => newH h need x k) 8
    unfold weekF
    omega
  · split
    · have := numTo_lt (fun i => decide (i < x) && newH h need i y) 8
      omega
    · omega
theorem pow8 {x : Nat} (hx : x < 8) : (2 : Int) ^ x % 256 = ((2 ^ x : Nat) : Int) := by
  have : x = 0 ∨ x = 1 ∨ x = 2 ∨ x = 3 ∨ x = 4 ∨ x = 5 ∨ x = 6 ∨ x = 7 := by omega
  rcases this with rfl | rfl | rfl | rfl | rfl | rfl | rfl | rfl <;> rfl
theorem HAt.drew {w : World} {b : Nat} {g : Nat → Int} (H : HAt w b g) : HAt w.drew b g := H
theorem HAt.congr {w : World} {b : Nat} {g g' : Nat → Int} (H : HAt w b g) (e : ∀ k, k < 8 → g k = g' k) : HAt w b g' := fun j hj => (e j hj) ▸ H j hj
theorem HAt.set {w : World} {b : Nat} {g g' : Nat → Int} {y : Nat} (H : HAt w b g) (hy : y < 8) (e : ∀ k, k < 8 → k ≠ y → g k = g' k) : HAt (w.setCell ⟨b, y, none⟩ (.int .u8 (g' y))) b g' := fun j hj => by
  by_cases h : j = y
  · subst h
    exact World.cell?_setCell_same _ _ _ (H j hj)
  · rw [← e j hj h]
    exact (World.cell?_setCell_other _ _ _ _ (by intro e; have e2 := congrArg Addr.off e; simp only at e2; omega)).trans (H j hj)

theorem res8 {wr : World} {rb : Nat} {a0 a1 a2 a3 a4 a5 a6 a7 : Value} (x0 x1 x2 x3 x4 x5 x6 x7 : Value) (h0 : wr.cell? ⟨rb, 0, none⟩ = some a0) (h1 : wr.cell? ⟨rb, 1, none⟩ = some a1) (h2 : wr.cell? ⟨rb, 2, none⟩ = some a2) (h3 : wr.cell? ⟨rb, 3, none⟩ = some a3) (h4 : wr.cell? ⟨rb, 4, none⟩ = some a4) (h5 : wr.cell? ⟨rb, 5, none⟩ = some a5) (h6 : wr.cell? ⟨rb, 6, none⟩ = some a6) (h7 : wr.cell? ⟨rb, 7, none⟩ = some a7) :
    (wr.setCell ⟨rb, 0, none⟩ x0).cell? ⟨rb, 0, none⟩ = some x0 ∧ ((wr.setCell ⟨rb, 0, none⟩ x0).setCell ⟨rb, 1, none⟩ x1).cell? ⟨rb, 1, none⟩ = some x1 ∧ (((wr.setCell ⟨rb, 0, none⟩ x0).setCell ⟨rb, 1, none⟩ x1).setCell ⟨rb, 2, none⟩ x2).cell? ⟨rb, 2, none⟩ = some x2 ∧ ((((wr.setCell ⟨rb, 0, none⟩ x0).setCell ⟨rb, 1, none⟩ x1).setCell ⟨rb, 2, none⟩ x2).setCell ⟨rb, 3, none⟩ x3).cell? ⟨rb, 3, none⟩ = some x3 ∧ (((((wr.setCell ⟨rb, 0, none⟩ x0).setCell ⟨rb, 1, none⟩ x1).setCell ⟨rb, 2, none⟩ x2).setCell ⟨rb, 3, none⟩ x3).setCell ⟨rb, 4, none⟩ x4).cell? ⟨rb, 4, none⟩ = some x4 ∧ ((((((wr.setCell ⟨rb, 0, none⟩ x0).setCell ⟨rb, 1, none⟩ x1).setCell ⟨rb, 2, none⟩ x2).setCell ⟨rb, 3, none⟩ x3).setCell ⟨rb, 4, none⟩ x4).setCell ⟨rb, 5, none⟩ x5).cell? ⟨rb, 5, none⟩ = some x5 ∧ (((((((wr.setCell ⟨rb, 0, none⟩ x0).setCell ⟨rb, 1, none⟩ x1).setCell ⟨rb, 2, none⟩ x2).setCell ⟨rb, 3, none⟩ x3).setCell ⟨rb, 4, none⟩ x4).setCell ⟨rb, 5, none⟩ x5).setCell ⟨rb, 6, none⟩ x6).cell? ⟨rb, 6, none⟩ = some x6 ∧ ((((((((wr.setCell ⟨rb, 0, none⟩ x0).setCell ⟨rb, 1, none⟩ x1).setCell ⟨rb, 2, none⟩ x2).setCell ⟨rb, 3, none⟩ x3).setCell ⟨rb, 4, none⟩ x4).setCell ⟨rb, 5, none⟩ x5).setCell ⟨rb, 6, none⟩ x6).setCell ⟨rb, 7, none⟩ x7).cell? ⟨rb, 7, none⟩ = some x7 :=
  ⟨World.cell?_setCell_same _ _ _ h0, World.cell?_setCell_same _ _ _ ((World.cell?_setCell_other _ _ _ _ (by simp)).trans h1), World.cell?_setCell_same _ _ _ ((World.cell?_setCell_other _ _ _ _ (by simp)).trans ((World.cell?_setCell_other _ _ _ _ (by simp)).trans h2)), World.cell?_setCell_same _ _ _ ((World.cell?_setCell_other _ _ _ _ (by simp)).trans ((World.cell?_setCell_other _ _ _ _ (by simp)).trans ((World.cell?_setCell_other _ _ _ _ (by simp)).trans h3))), World.cell?_setCell_same _ _ _ ((World.cell?_setCell_other _ _ _ _ (by simp)).trans ((World.cell?_setCell_other _ _ _ _ (by simp)).trans ((World.cell?_setCell_other _ _ _ _ (by simp)).trans ((World.cell?_setCell_other _ _ _ _ (by simp)).trans h4)))), World.cell?_setCell_same _ _ _ ((World.cell?_setCell_other _ _ _ _ (by simp)).trans ((World.cell?_setCell_other _ _ _ _ (by simp)).trans ((World.cell?_setCell_other _ _ _ _ (by simp)).trans ((World.cell?_setCell_other _ _ _ _ (by simp)).trans ((World.cell?_setCell_other _ _ _ _ (by simp)).trans h5))))), World.cell?_setCell_same _ _ _ ((World.cell?_setCell_other _ _ _ _ (by simp)).trans ((World.cell?_setCell_other _ _ _ _ (by simp)).trans ((World.cell?_setCell_other _ _ _ _ (by simp)).trans ((World.cell?_setCell_other _ _ _ _ (by simp)).trans ((World.cell?_setCell_other _ _ _ _ (by simp)).trans ((World.cell?_setCell_other _ _ _ _ (by simp)).trans h6)))))), World.cell?_setCell_same _ _ _ ((World.cell?_setCell_other _ _ _ _ (by simp)).trans ((World.cell?_setCell_other _ _ _ _ (by simp)).trans ((World.cell?_setCell_other _ _ _ _ (by simp)).trans ((World.cell?_setCell_other _ _ _ _ (by simp)).trans ((World.cell?_setCell_other _ _ _ _ (by simp)).trans ((World.cell?_setCell_other _ _ _ _ (by simp)).trans ((World.cell?_setCell_other _ _ _ _ (by simp)).trans h7)))))))⟩

set_option maxRecDepth 100000 in
set_option maxHeartbeats 8000000 in
theorem whereWeek_any (A Bn : Nat) (h : Nat → Int) (need : Int) (w : World) (h8 : Bytes8 h) (H : HAt w A h) (hn : w.cell? ⟨Bn, 0, none⟩ = some (.int .i64 need)) :
    Calls Tryd.prog 42 #[.func (Fn.func 43) #[] #[.pointer (some ⟨A, 0, none⟩), .pointer (some ⟨Bn, 0, none⟩)]] w fun e w' => e = .returned (hv (weekF h need)) ∧ Below w.heap.size w w' := by
  have HW := Lib.hid fun (x y : Nat) wx (hx : x < 8) (hy : y < 8) (hB : Below w.heap.size w wx) => week1_any A Bn h need x y wx h8 (by omega) (by omega) (H.below hB) (kept hB (World.block_lt_of_cell? w _ hn) hn)
  have hZ : ∀ k, k < 8 → (0 : Int) = stH h need 0 0 k := fun k _ => (stH_zero h need k).symm
  have S0 : Hid (HAt ((w.alloc (.cells #[.int .u8 0, .int .u8 0, .int .u8 0, .int .u8 0, .int .u8 0, .int .u8 0, .int .u8 0, .int .u8 0] 23)).alloc (.cells #[.int .u8 0, .int .u8 0, .int .u8 0, .int .u8 0, .int .u8 0, .int .u8 0, .int .u8 0, .int .u8 0] 23)) (w.heap.size + 1) (stH h need 0 0)) := Lib.hid (HAt.congr (by
    have := hat_made (w.alloc (.cells #[.int .u8 0, .int .u8 0, .int .u8 0, .int .u8 0, .int .u8 0, .int .u8 0, .int .u8 0, .int .u8 0] 23)) 23 (fun _ => 0)
    simpa only [World.size_alloc] using this) hZ)
  have F0 : Hid (∀ o : Nat, ((w.alloc (.cells #[.int .u8 0, .int .u8 0, .int .u8 0, .int .u8 0, .int .u8 0, .int .u8 0, .int .u8 0, .int .u8 0] 23)).alloc (.cells #[.int .u8 0, .int .u8 0, .int .u8 0, .int .u8 0, .int .u8 0, .int .u8 0, .int .u8 0, .int .u8 0] 23)).frozen? ⟨w.heap.size + 1, o, none⟩ = false) := Lib.hid fun o => by simp [go_sem]
  obtain ⟨W0, hW0⟩ : ∃ W0, W0 = (w.alloc (.cells #[.int .u8 0, .int .u8 0, .int .u8 0, .int .u8 0, .int .u8 0, .int .u8 0, .int .u8 0, .int .u8 0] 23)).alloc (.cells #[.int .u8 0, .int .u8 0, .int .u8 0, .int .u8 0, .int .u8 0, .int .u8 0, .int .u8 0, .int .u8 0] 23) := ⟨_, rfl⟩
  have B0 : Hid (Below w.heap.size w W0) := Lib.hid (by rw [hW0]; go_grown)
  have R0 : Hid (HAt W0 w.heap.size (fun _ => 0)) := Lib.hid (by
    rw [hW0]
    exact (hat_made w 23 (fun _ => 0)).below ((Below.refl _ _).alloc (Nat.le_refl _) _))
  have Z0 : Hid (∀ o : Nat, W0.frozen? ⟨w.heap.size, o, none⟩ = false) := Lib.hid fun o => by rw [hW0]; simp [go_sem]
  have N0 : Hid (W0.heap.size = w.heap.size + 1 + 1) := Lib.hid (by rw [hW0]; simp)
  have HW0 := Lib.hid hW0
  rw [← hW0] at S0 F0
  clear hW0 hZ H hn h8
  go_enter Tryd.func42, Tryd.ntmps42
  go_wp2_with fail
  rw [← HW0.out]
  go_loopw [6] (fun i wr => ∃ y : Nat, y ≤ 8 ∧ i = .int .i64 y ∧ Hid (HAt wr (w.heap.size + 1) (stH h need y 0)) ∧ Hid (∀ o : Nat, wr.frozen? ⟨w.heap.size + 1, o, none⟩ = false) ∧ Hid (Below (w.heap.size + 1) W0 wr)) (fun i _ => 8 - (intOf i).toNat)
  case atStart => exact ⟨0, by omega, rfl, S0, F0, Lib.hid (Below.refl _ _)⟩
  case round =>
    obtain ⟨y, hy, rfl, hS, hF, hB⟩ := hrel
    by_cases hlt : y < 8
    · obtain ⟨wo, rfl⟩ : ∃ wo : World, wo = wr := ⟨_, rfl⟩
      have hd : decide ((y : Int) < 8) = true := decide_eq_true (by omega)
      go_wp2_with fail
      go_loopw [9] (fun i wr => ∃ x : Nat, x ≤ 8 ∧ i = .int .i64 x ∧ Hid (HAt wr (w.heap.size + 1) (stH h need y x)) ∧ Hid (∀ o : Nat, wr.frozen? ⟨w.heap.size + 1, o, none⟩ = false) ∧ Hid (Below (w.heap.size + 1) W0 wr)) (fun i _ => 8 - (intOf i).toNat)
      case atStart => exact ⟨0, by omega, rfl, hS, hF, hB⟩
      case round =>
        obtain ⟨x, hx, rfl, hS2, hF2, hB2⟩ := hrel
        by_cases hxlt : x < 8
        · have HB2 := Lib.hid (B0.out.trans (hB2.out.mono (Nat.le_succ _)))
          have HC := Lib.hid (HW.out x y wr hxlt hlt HB2.out)
          have hSN := Lib.hid fun e => stH_no (h := h) (need := need) (y := y) (x := x) e
          have hSY := Lib.hid fun e => stH_yes (h := h) (need := need) (y := y) (x := x) hxlt e
          generalize newH h need x y = r at *
          cases r with
          | false =>
            go_wp2_with fail
            refine HC.out.mono ?_
            rintro e w2 ⟨rfl, hC⟩
            have hbl : w.heap.size + 1 < wr.heap.size := World.block_lt_of_cell? wr _ (hS2.out 0 (by omega))
            have S3 := Lib.hid ((hS2.out.below hC).congr fun k _ => (hSN.out (by first | rfl | trivial) k).symm)
            have F3 : Hid (∀ o : Nat, w2.frozen? ⟨w.heap.size + 1, o, none⟩ = false) := Lib.hid fun o => (hC.frozen (p := ⟨w.heap.size + 1, o, none⟩) hbl).trans (hF2.out o)
            have B3 := Lib.hid (hB2.out.trans (hC.mono (by omega)))
            clear hC hbl
            go_wp2_with fail
            go_roundw
            case rel => exact ⟨x + 1, by omega, by go_num, S3, F3, B3⟩
            case measure => simp [intOf]; omega
          | true =>
            go_wp2_with fail
            refine HC.out.mono ?_
            rintro e w2 ⟨rfl, hC⟩
            have hbl : w.heap.size + 1 < wr.heap.size := World.block_lt_of_cell? wr _ (hS2.out 0 (by omega))
            have S3 := Lib.hid (hS2.out.below hC)
            have F3 : Hid (∀ o : Nat, w2.frozen? ⟨w.heap.size + 1, o, none⟩ = false) := Lib.hid fun o => (hC.frozen (p := ⟨w.heap.size + 1, o, none⟩) hbl).trans (hF2.out o)
            have B3 := Lib.hid (hB2.out.trans (hC.mono (by omega)))
            have c0 := S3.out y hlt
            have f0 := F3.out y
            have HY := Lib.hid ((congrArg _ (pow8 hxlt)).trans (hSY.out (by first | rfl | trivial)))
            clear hC hbl
            go_wp2_with fail
            go_region
            all_goals
              go_wp2_with fail
              go_roundw
              case rel => exact ⟨x + 1, by omega, by go_num, Lib.hid (by rw [HY.out]; exact HAt.drew (S3.out.set hlt fun k _ hne => stH_other hne)), Lib.hid fun o => (by simpa using F3.out o), Lib.hid ((B3.out.setCell (Nat.le_refl _) _).drew)⟩
              case measure => simp [intOf]; omega
        · have hx8 : x = 8 := by omega
          subst hx8
          go_wp2_with fail
          go_roundw
          case rel => exact ⟨y + 1, by omega, by go_num, Lib.hid (hS2.out.congr fun k _ => stH_row h need y k), hF2, hB2⟩
          case measure => simp [intOf]; omega
    · have hy8 : y = 8 := by omega
      subst hy8
      have G := Lib.hid (hS.out.congr fun k hk => stH_all h need hk)
      have c := G.out
      have c0 := c 0 (by omega)
      have c1 := c 1 (by omega)
      have c2 := c 2 (by omega)
      have c3 := c 3 (by omega)
      have c4 := c 4 (by omega)
      have c5 := c 5 (by omega)
      have c6 := c 6 (by omega)
      have c7 := c 7 (by omega)
      have R := Lib.hid fun j hj => (hB.out.cell (p := ⟨w.heap.size, j, none⟩) (Nat.lt_succ_self _)).trans (R0.out j hj)
      have r0 := R.out 0 (by omega)
      have r1 := R.out 1 (by omega)
      have r2 := R.out 2 (by omega)
      have r3 := R.out 3 (by omega)
      have r4 := R.out 4 (by omega)
      have r5 := R.out 5 (by omega)
      have r6 := R.out 6 (by omega)
      have r7 := R.out 7 (by omega)
      have fz : ∀ o : Nat, wr.frozen? ⟨w.heap.size, o, none⟩ = false := fun o => (hB.out.frozen (p := ⟨w.heap.size, o, none⟩) (Nat.lt_succ_self _)).trans (Z0.out o)
      have E := Lib.hid (B0.out.trans (hB.out.mono (Nat.le_succ _)))
      obtain ⟨e0, e1, e2, e3, e4, e5, e6, e7⟩ := res8 (.int .u8 (weekF h need 0)) (.int .u8 (weekF h need 1)) (.int .u8 (weekF h need 2)) (.int .u8 (weekF h need 3)) (.int .u8 (weekF h need 4)) (.int .u8 (weekF h need 5)) (.int .u8 (weekF h need 6)) (.int .u8 (weekF h need 7)) r0 r1 r2 r3 r4 r5 r6 r7
      clear c hS hF hB
      go_wp2
      refine bodyPost_ret (by simp [results, Tryd.results42, go_sem, e0, e1, e2, e3, e4, e5, e6, e7]; try rfl) rfl ?_
      refine ⟨rfl, ?_⟩
      go_grown
      exact E.out

set_option maxRecDepth 100000 in
set_option maxHeartbeats 4000000 in
theorem weekLater_any (h : Nat → Int) (need : Int) (w : World) (h8 : Bytes8 h) :
    Calls Tryd.prog 31 #[hv h, .int .i64 need] w fun e w' => e = .returned (hv (weekF h need)) ∧ Below w.heap.size w w' := by
  obtain ⟨W0, hW0⟩ : ∃ W0, W0 = ((w.alloc (.cells #[.int .u8 (h 0), .int .u8 (h 1), .int .u8 (h 2), .int .u8 (h 3), .int .u8 (h 4), .int .u8 (h 5), .int .u8 (h 6), .int .u8 (h 7)] 23)).alloc (.cells #[.int .i64 need] 2)).alloc (.cells #[.int .u8 0, .int .u8 0, .int .u8 0, .int .u8 0, .int .u8 0, .int .u8 0, .int .u8 0, .int .u8 0] 23) := ⟨_, rfl⟩
  have A0 : HAt W0 w.heap.size h := by
    rw [hW0]
    exact ((hat_made w 23 h).below ((Below.refl _ _).alloc (Nat.le_refl _) _)).below ((Below.refl _ _).alloc (Nat.le_refl _) _)
  have A1 : W0.cell? ⟨w.heap.size + 1, 0, none⟩ = some (.int .i64 need) := by rw [hW0]; simp [go_sem]
  have A2 : HAt W0 (w.heap.size + 1 + 1) (fun _ => 0) := by
    rw [hW0]
    have := hat_made ((w.alloc (.cells #[.int .u8 (h 0), .int .u8 (h 1), .int .u8 (h 2), .int .u8 (h 3), .int .u8 (h 4), .int .u8 (h 5), .int .u8 (h 6), .int .u8 (h 7)] 23)).alloc (.cells #[.int .i64 need] 2)) 23 (fun _ => 0)
    simpa only [World.size_alloc] using this
  have A3 : ∀ o : Nat, W0.frozen? ⟨w.heap.size + 1 + 1, o, none⟩ = false := fun o => by rw [hW0]; simp [go_sem]
  have B0 : Hid (Below w.heap.size w W0) := Lib.hid (by rw [hW0]; go_grown)
  have HC := Lib.hid (whereWeek_any w.heap.size (w.heap.size + 1) h need W0 h8 A0 A1)
  have R0 := Lib.hid A2
  have Z0 := Lib.hid A3
  have HW0 := Lib.hid hW0
  clear A0 A1 A2 A3 hW0 h8
  go_enter Tryd.func31, Tryd.ntmps31
  go_wp2_with fail
  rw [← HW0.out]
  refine HC.out.mono ?_
  rintro e w1 ⟨rfl, hB⟩
  have R := Lib.hid (R0.out.below hB)
  have hl : w.heap.size + 1 + 1 < W0.heap.size := World.block_lt_of_cell? W0 _ (R0.out 0 (by omega))
  have fz : ∀ o : Nat, w1.frozen? ⟨w.heap.size + 1 + 1, o, none⟩ = false := fun o => (hB.frozen (p := ⟨w.heap.size + 1 + 1, o, none⟩) hl).trans (Z0.out o)
  have E := Lib.hid (B0.out.trans (hB.mono B0.out.size))
  have r0 := R.out 0 (by omega)
  have r1 := R.out 1 (by omega)
  have r2 := R.out 2 (by omega)
  have r3 := R.out 3 (by omega)
  have r4 := R.out 4 (by omega)
  have r5 := R.out 5 (by omega)
  have r6 := R.out 6 (by omega)
  have r7 := R.out 7 (by omega)
  obtain ⟨e0, e1, e2, e3, e4, e5, e6, e7⟩ := res8 (.int .u8 (weekF h need 0)) (.int .u8 (weekF h need 1)) (.int .u8 (weekF h need 2)) (.int .u8 (weekF h need 3)) (.int .u8 (weekF h need 4)) (.int .u8 (weekF h need 5)) (.int .u8 (weekF h need 6)) (.int .u8 (weekF h need 7)) r0 r1 r2 r3 r4 r5 r6 r7
  clear hB hl
  go_wp2
  refine bodyPost_ret (by simp [results, Tryd.results31, go_sem, e0, e1, e2, e3, e4, e5, e6, e7]; try rfl) rfl ?_
  refine ⟨rfl, ?_⟩
  go_grown
  exact E.out
end Go.Proofs.YtcdjjijagibhlaaDoor
