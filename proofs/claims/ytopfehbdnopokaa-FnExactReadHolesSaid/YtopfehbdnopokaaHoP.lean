/-
  No statement is proved here: the holes that a text tells, in the program; conditions as stated.
-/
import Derived.Test.YtopfehbdnopokaaHoA
import Derived.Test.YtopfehbdnopokaaNl
namespace Go.Proofs.Ytopfehbdnopokaa
open Go.ChangeShapes Go.WideShapes Go.ChangeAt Go.RowKit

/-- Holes that are told; those of the stitches before y, x. -/
def tlF (f : Nat → Nat → Bool) : Nat → Int := fun y => (numTo (fun x => f x y) 8 : Nat)
theorem tlF_bytes (f : Nat → Nat → Bool) : Bytes8 (tlF f) := fun j _ => by
  have := numTo_lt (fun x => f x j) 8
  unfold tlF
  omega
def stP (f : Nat → Nat → Bool) (y x : Nat) : Nat → Int := fun k => if k < y then tlF f k else if k = y then ((numTo (fun i => decide (i < x) && f i y) 8 : Nat) : Int) else 0
theorem stP_at (f : Nat → Nat → Bool) (y x : Nat) : stP f y x y = ((numTo (fun i => decide (i < x) && f i y) 8 : Nat) : Int) := by unfold stP; rw [if_neg (by omega), if_pos rfl]
theorem stP_other {f : Nat → Nat → Bool} {y x x' k : Nat} (e : k ≠ y) : stP f y x k = stP f y x' k := by unfold stP; rw [if_neg e, if_neg e]
theorem stP_zero (f : Nat → Nat → Bool) (k : Nat) : stP f 0 0 k = 0 := by
  unfold stP
  rw [if_neg (by omega)]
  split
  · rfl
  · rfl
theorem stP_row (f : Nat → Nat → Bool) (y k : Nat) : stP f y 8 k = stP f (y + 1) 0 k := by
  unfold stP
  by_cases h1 : k < y
  · rw [if_pos h1, if_pos (by omega)]
  · by_cases h2 : k = y
    · subst h2
      rw [if_neg (by omega), if_pos rfl, if_pos (by omega)]
      exact congrArg Nat.cast (numTo_congr 8 fun j hj => by simp [hj])
    · rw [if_neg h1, if_neg h2, if_neg (by omega)]
      split
      · rfl
      · rfl
theorem stP_all (f : Nat → Nat → Bool) {k : Nat} (hk : k < 8) : stP f 8 0 k = tlF f k := by unfold stP; rw [if_pos hk]
theorem stP_no {f : Nat → Nat → Bool} {y x : Nat} (e : f x y = false) (k : Nat) : stP f y (x + 1) k = stP f y x k := by
  by_cases hk : k = y
  · subst hk
    rw [stP_at, stP_at]
    congr 1
    refine numTo_congr 8 fun j _ => ?_
    by_cases hj : j = x
    · subst hj; rw [e]; simp
    · have : decide (j < x + 1) = decide (j < x) := by rw [decide_eq_decide]; omega
      rw [this]
  · exact stP_other hk
theorem stP_yes {f : Nat → Nat → Bool} {y x : Nat} (hx : x < 8) (e : f x y = true) : bits BinOp.or IntKind.u8 (stP f y x y) ((2 ^ x : Nat) : Int) = stP f y (x + 1) y := by
  rw [stP_at, stP_at, or_num _ hx]
  congr 1
  refine numTo_congr 8 fun j _ => ?_
  by_cases hj : j = x
  · subst hj; rw [e]; simp
  · have h1 : decide (j < x + 1) = decide (j < x) := by rw [decide_eq_decide]; omega
    have h2 : (j == x) = false := by simp [hj]
    rw [h1, h2]
    simp
theorem pow8P {x : Nat} (hx : x < 8) : (2 : Int) ^ x % 256 = ((2 ^ x : Nat) : Int) := by
  have : x = 0 ∨ x = 1 ∨ x = 2 ∨ x = 3 ∨ x = 4 ∨ x = 5 ∨ x = 6 ∨ x = 7 := by omega
  rcases this with rfl | rfl | rfl | rfl | rfl | rfl | rfl | rfl <;> rfl
theorem HAt.drewP {w : World} {b : Nat} {g : Nat → Int} (H : HAt w b g) : HAt w.drew b g := H
theorem HAt.congrP {w : World} {b : Nat} {g g' : Nat → Int} (H : HAt w b g) (e : ∀ k, k < 8 → g k = g' k) : HAt w b g' := fun j hj => (e j hj) ▸ H j hj
theorem HAt.setP {w : World} {b : Nat} {g g' : Nat → Int} {y : Nat} (H : HAt w b g) (hy : y < 8) (e : ∀ k, k < 8 → k ≠ y → g k = g' k) : HAt (w.setCell ⟨b, y, none⟩ (.int .u8 (g' y))) b g' := fun j hj => by
  by_cases h : j = y
  · subst h
    exact World.cell?_setCell_same _ _ _ (H j hj)
  · rw [← e j hj h]
    exact (World.cell?_setCell_other _ _ _ _ (by intro e; have e2 := congrArg Addr.off e; simp only at e2; omega)).trans (H j hj)

theorem res8P {wr : World} {rb : Nat} {a0 a1 a2 a3 a4 a5 a6 a7 : Value} (x0 x1 x2 x3 x4 x5 x6 x7 : Value) (h0 : wr.cell? ⟨rb, 0, none⟩ = some a0) (h1 : wr.cell? ⟨rb, 1, none⟩ = some a1) (h2 : wr.cell? ⟨rb, 2, none⟩ = some a2) (h3 : wr.cell? ⟨rb, 3, none⟩ = some a3) (h4 : wr.cell? ⟨rb, 4, none⟩ = some a4) (h5 : wr.cell? ⟨rb, 5, none⟩ = some a5) (h6 : wr.cell? ⟨rb, 6, none⟩ = some a6) (h7 : wr.cell? ⟨rb, 7, none⟩ = some a7) :
    (wr.setCell ⟨rb, 0, none⟩ x0).cell? ⟨rb, 0, none⟩ = some x0 ∧ ((wr.setCell ⟨rb, 0, none⟩ x0).setCell ⟨rb, 1, none⟩ x1).cell? ⟨rb, 1, none⟩ = some x1 ∧ (((wr.setCell ⟨rb, 0, none⟩ x0).setCell ⟨rb, 1, none⟩ x1).setCell ⟨rb, 2, none⟩ x2).cell? ⟨rb, 2, none⟩ = some x2 ∧ ((((wr.setCell ⟨rb, 0, none⟩ x0).setCell ⟨rb, 1, none⟩ x1).setCell ⟨rb, 2, none⟩ x2).setCell ⟨rb, 3, none⟩ x3).cell? ⟨rb, 3, none⟩ = some x3 ∧ (((((wr.setCell ⟨rb, 0, none⟩ x0).setCell ⟨rb, 1, none⟩ x1).setCell ⟨rb, 2, none⟩ x2).setCell ⟨rb, 3, none⟩ x3).setCell ⟨rb, 4, none⟩ x4).cell? ⟨rb, 4, none⟩ = some x4 ∧ ((((((wr.setCell ⟨rb, 0, none⟩ x0).setCell ⟨rb, 1, none⟩ x1).setCell ⟨rb, 2, none⟩ x2).setCell ⟨rb, 3, none⟩ x3).setCell ⟨rb, 4, none⟩ x4).setCell ⟨rb, 5, none⟩ x5).cell? ⟨rb, 5, none⟩ = some x5 ∧ (((((((wr.setCell ⟨rb, 0, none⟩ x0).setCell ⟨rb, 1, none⟩ x1).setCell ⟨rb, 2, none⟩ x2).setCell ⟨rb, 3, none⟩ x3).setCell ⟨rb, 4, none⟩ x4).setCell ⟨rb, 5, none⟩ x5).setCell ⟨rb, 6, none⟩ x6).cell? ⟨rb, 6, none⟩ = some x6 ∧ ((((((((wr.setCell ⟨rb, 0, none⟩ x0).setCell ⟨rb, 1, none⟩ x1).setCell ⟨rb, 2, none⟩ x2).setCell ⟨rb, 3, none⟩ x3).setCell ⟨rb, 4, none⟩ x4).setCell ⟨rb, 5, none⟩ x5).setCell ⟨rb, 6, none⟩ x6).setCell ⟨rb, 7, none⟩ x7).cell? ⟨rb, 7, none⟩ = some x7 :=
  ⟨World.cell?_setCell_same _ _ _ h0, World.cell?_setCell_same _ _ _ ((World.cell?_setCell_other _ _ _ _ (by simp)).trans h1), World.cell?_setCell_same _ _ _ ((World.cell?_setCell_other _ _ _ _ (by simp)).trans ((World.cell?_setCell_other _ _ _ _ (by simp)).trans h2)), World.cell?_setCell_same _ _ _ ((World.cell?_setCell_other _ _ _ _ (by simp)).trans ((World.cell?_setCell_other _ _ _ _ (by simp)).trans ((World.cell?_setCell_other _ _ _ _ (by simp)).trans h3))), World.cell?_setCell_same _ _ _ ((World.cell?_setCell_other _ _ _ _ (by simp)).trans ((World.cell?_setCell_other _ _ _ _ (by simp)).trans ((World.cell?_setCell_other _ _ _ _ (by simp)).trans ((World.cell?_setCell_other _ _ _ _ (by simp)).trans h4)))), World.cell?_setCell_same _ _ _ ((World.cell?_setCell_other _ _ _ _ (by simp)).trans ((World.cell?_setCell_other _ _ _ _ (by simp)).trans ((World.cell?_setCell_other _ _ _ _ (by simp)).trans ((World.cell?_setCell_other _ _ _ _ (by simp)).trans ((World.cell?_setCell_other _ _ _ _ (by simp)).trans h5))))), World.cell?_setCell_same _ _ _ ((World.cell?_setCell_other _ _ _ _ (by simp)).trans ((World.cell?_setCell_other _ _ _ _ (by simp)).trans ((World.cell?_setCell_other _ _ _ _ (by simp)).trans ((World.cell?_setCell_other _ _ _ _ (by simp)).trans ((World.cell?_setCell_other _ _ _ _ (by simp)).trans ((World.cell?_setCell_other _ _ _ _ (by simp)).trans h6)))))), World.cell?_setCell_same _ _ _ ((World.cell?_setCell_other _ _ _ _ (by simp)).trans ((World.cell?_setCell_other _ _ _ _ (by simp)).trans ((World.cell?_setCell_other _ _ _ _ (by simp)).trans ((World.cell?_setCell_other _ _ _ _ (by simp)).trans ((World.cell?_setCell_other _ _ _ _ (by simp)).trans ((World.cell?_setCell_other _ _ _ _ (by simp)).trans ((World.cell?_setCell_other _ _ _ _ (by simp)).trans h7)))))))⟩


/-- The stitch that a text tells. -/
def toldT (l : List UInt8) (x y : Nat) : Bool := l.getD (9 * y + x) 0 == 111
theorem toldT_byte (s : ByteArray) (x y : Nat) : (((byteAt s (9 * y + x) : Nat) : Int) == 111) = toldT s.data.toList x y := by
  have h := UInt8.toNat_inj (a := s.data.toList.getD (9 * y + x) 0) (b := 111)
  unfold toldT byteAt
  generalize s.data.toList.getD (9 * y + x) 0 = c at *
  rw [Bool.eq_iff_iff, beq_iff_eq, beq_iff_eq, ← h]
  show _ ↔ c.toNat = 111
  omega
set_option maxRecDepth 100000 in
set_option maxHeartbeats 4000000 in
theorem told1_any (A : Nat) (s : ByteArray) (x y : Nat) (w : World) (hs : s.size = 72) (hx : x < 8) (hy : y < 8) (hc : w.cell? ⟨A, 0, none⟩ = some (.string s)) :
    Calls Try.prog 16 #[.int .i64 (x : Nat), .int .i64 (y : Nat), .pointer (some ⟨A, 0, none⟩)] w fun e w' => e = .returned (.bool (toldT s.data.toList x y)) ∧ Below w.heap.size w w' := by
  have hix := idx_str s (9 * y + x) (by omega)
  have hk : ((9 * y + x : Nat) : Int) = (y : Int) * 9 + (x : Int) := by omega
  rw [hk] at hix
  have hr := Lib.hid (toldT_byte s x y)
  have hx2 : (x : Int) < 8 := by omega
  have hy2 : (y : Int) < 8 := by omega
  clear hk hx hy hs
  go_enter Try.func16, Try.ntmps16
  go_wp2
  go_ret
  exact ⟨ret_bool hr.out, by go_grown⟩

set_option maxRecDepth 100000 in
set_option maxHeartbeats 8000000 in
theorem whereRead_any (A : Nat) (s : ByteArray) (w : World) (hs : s.size = 72) (hc : w.cell? ⟨A, 0, none⟩ = some (.string s)) :
    Calls Try.prog 15 #[.func (Fn.func 16) #[] #[.pointer (some ⟨A, 0, none⟩)]] w fun e w' => e = .returned (hv (tlF (toldT s.data.toList))) ∧ Below w.heap.size w w' := by
  have HW := Lib.hid fun (x y : Nat) wx (hx : x < 8) (hy : y < 8) (hB : Below w.heap.size w wx) => told1_any A s x y wx hs hx hy (kept hB (World.block_lt_of_cell? w _ hc) hc)
  generalize toldT s.data.toList = f at *
  have hZ : ∀ k, k < 8 → (0 : Int) = stP f 0 0 k := fun k _ => (stP_zero f k).symm
  have S0 : Hid (HAt ((w.alloc (.cells #[.int .u8 0, .int .u8 0, .int .u8 0, .int .u8 0, .int .u8 0, .int .u8 0, .int .u8 0, .int .u8 0] 23)).alloc (.cells #[.int .u8 0, .int .u8 0, .int .u8 0, .int .u8 0, .int .u8 0, .int .u8 0, .int .u8 0, .int .u8 0] 23)) (w.heap.size + 1) (stP f 0 0)) := Lib.hid (HAt.congrP (by
    have := hat_made (w.alloc (.cells #[.int .u8 0, .int .u8 0, .int .u8 0, .int .u8 0, .int .u8 0, .int .u8 0, .int .u8 0, .int .u8 0] 23)) 23 (fun _ => 0)
    simpa only [World.size_alloc] using this) hZ)
  have F0 : Hid (∀ o : Nat, ((w.alloc (.cells #[.int .u8 0, .int .u8 0, .int .u8 0, .int .u8 0, .int .u8 0, .int .u8 0, .int .u8 0, .int .u8 0] 23)).alloc (.cells #[.int .u8 0, .int .u8 0, .int .u8 0, .int .u8 0, .int .u8 0, .int .u8 0, .int .u8 0, .int .u8 0] 23)).frozen? ⟨w.heap.size + 1, o, none⟩ = false) := Lib.hid fun o => by simp [go_sem]
  obtain ⟨W0, hW0⟩ : ∃ W0, W0 = (w.alloc (.cells #[.int .u8 0, .int .u8 0, .int .u8 0, .int .u8 0, .int .u8 0, .int .u8 0, .int .u8 0, .int .u8 0] 23)).alloc (.cells #[.int .u8 0, .int .u8 0, .int .u8 0, .int .u8 0, .int .u8 0, .int .u8 0, .int .u8 0, .int .u8 0] 23) := ⟨_, rfl⟩
  have B0 : Hid (Below w.heap.size w W0) := Lib.hid (by rw [hW0]; go_grown)
  have R0 : Hid (HAt W0 w.heap.size (fun _ => 0)) := Lib.hid (by
    rw [hW0]
    exact (hat_made w 23 (fun _ => 0)).below ((Below.refl _ _).alloc (Nat.le_refl _) _))
  have Z0 : Hid (∀ o : Nat, W0.frozen? ⟨w.heap.size, o, none⟩ = false) := Lib.hid fun o => by rw [hW0]; simp [go_sem]
  have N0 : Hid (W0.heap.size = w.heap.size + 1 + 1) := Lib.hid (by rw [hW0]; simp)
  have HW0 := Lib.hid hW0
  rw [← hW0] at S0 F0
  clear hW0 hZ hc hs
  go_enter Try.func15, Try.ntmps15
  go_wp2_with fail
  rw [← HW0.out]
  go_loopw [6] (fun i wr => ∃ y : Nat, y ≤ 8 ∧ i = .int .i64 y ∧ Hid (HAt wr (w.heap.size + 1) (stP f y 0)) ∧ Hid (∀ o : Nat, wr.frozen? ⟨w.heap.size + 1, o, none⟩ = false) ∧ Hid (Below (w.heap.size + 1) W0 wr)) (fun i _ => 8 - (intOf i).toNat)
  case atStart => exact ⟨0, by omega, rfl, S0, F0, Lib.hid (Below.refl _ _)⟩
  case round =>
    obtain ⟨y, hy, rfl, hS, hF, hB⟩ := hrel
    by_cases hlt : y < 8
    · obtain ⟨wo, rfl⟩ : ∃ wo : World, wo = wr := ⟨_, rfl⟩
      have hd : decide ((y : Int) < 8) = true := decide_eq_true (by omega)
      go_wp2_with fail
      go_loopw [9] (fun i wr => ∃ x : Nat, x ≤ 8 ∧ i = .int .i64 x ∧ Hid (HAt wr (w.heap.size + 1) (stP f y x)) ∧ Hid (∀ o : Nat, wr.frozen? ⟨w.heap.size + 1, o, none⟩ = false) ∧ Hid (Below (w.heap.size + 1) W0 wr)) (fun i _ => 8 - (intOf i).toNat)
      case atStart => exact ⟨0, by omega, rfl, hS, hF, hB⟩
      case round =>
        obtain ⟨x, hx, rfl, hS2, hF2, hB2⟩ := hrel
        by_cases hxlt : x < 8
        · have HB2 := Lib.hid (B0.out.trans (hB2.out.mono (Nat.le_succ _)))
          have HC := Lib.hid (HW.out x y wr hxlt hlt HB2.out)
          have hSN := Lib.hid fun e => stP_no (f := f) (y := y) (x := x) e
          have hSY := Lib.hid fun e => stP_yes (f := f) (y := y) (x := x) hxlt e
          generalize f x y = r at *
          cases r with
          | false =>
            go_wp2_with fail
            refine HC.out.mono ?_
            rintro e w2 ⟨rfl, hC⟩
            have hbl : w.heap.size + 1 < wr.heap.size := World.block_lt_of_cell? wr _ (hS2.out 0 (by omega))
            have S3 := Lib.hid ((hS2.out.below hC).congrP fun k _ => (hSN.out (by first | rfl | trivial) k).symm)
            have F3 : Hid (∀ o : Nat, w2.frozen? ⟨w.heap.size + 1, o, none⟩ = false) := Lib.hid fun o => (hC.frozen (p := ⟨w.heap.size + 1, o, none⟩) hbl).trans (hF2.out o)
            have B3 := Lib.hid (hB2.out.trans (hC.mono (by omega)))
            clear hC hbl
            go_wp2_with fail
            go_roundw
            case rel => exact ⟨x + 1, by omega, by go_num, S3, F3, B3⟩
            case measure => simp [intOf]; omega
          | true =>
            go_wp2_with fail
            refine HC.out.mono ?_
            rintro e w2 ⟨rfl, hC⟩
            have hbl : w.heap.size + 1 < wr.heap.size := World.block_lt_of_cell? wr _ (hS2.out 0 (by omega))
            have S3 := Lib.hid (hS2.out.below hC)
            have F3 : Hid (∀ o : Nat, w2.frozen? ⟨w.heap.size + 1, o, none⟩ = false) := Lib.hid fun o => (hC.frozen (p := ⟨w.heap.size + 1, o, none⟩) hbl).trans (hF2.out o)
            have B3 := Lib.hid (hB2.out.trans (hC.mono (by omega)))
            have c0 := S3.out y hlt
            have f0 := F3.out y
            have HY := Lib.hid ((congrArg _ (pow8P hxlt)).trans (hSY.out (by first | rfl | trivial)))
            clear hC hbl
            go_wp2_with fail
            go_region
            all_goals
              go_wp2_with fail
              go_roundw
              case rel => exact ⟨x + 1, by omega, by go_num, Lib.hid (by rw [HY.out]; exact HAt.drewP (S3.out.setP hlt fun k _ hne => stP_other hne)), Lib.hid fun o => (by simpa using F3.out o), Lib.hid ((B3.out.setCell (Nat.le_refl _) _).drew)⟩
              case measure => simp [intOf]; omega
        · have hx8 : x = 8 := by omega
          subst hx8
          go_wp2_with fail
          go_roundw
          case rel => exact ⟨y + 1, by omega, by go_num, Lib.hid (hS2.out.congrP fun k _ => stP_row f y k), hF2, hB2⟩
          case measure => simp [intOf]; omega
    · have hy8 : y = 8 := by omega
      subst hy8
      have G := Lib.hid (hS.out.congrP fun k hk => stP_all f hk)
      have c := G.out
      have c0 := c 0 (by omega)
      have c1 := c 1 (by omega)
      have c2 := c 2 (by omega)
      have c3 := c 3 (by omega)
      have c4 := c 4 (by omega)
      have c5 := c 5 (by omega)
      have c6 := c 6 (by omega)
      have c7 := c 7 (by omega)
      have R := Lib.hid fun j hj => (hB.out.cell (p := ⟨w.heap.size, j, none⟩) (Nat.lt_succ_self _)).trans (R0.out j hj)
      have r0 := R.out 0 (by omega)
      have r1 := R.out 1 (by omega)
      have r2 := R.out 2 (by omega)
      have r3 := R.out 3 (by omega)
      have r4 := R.out 4 (by omega)
      have r5 := R.out 5 (by omega)
      have r6 := R.out 6 (by omega)
      have r7 := R.out 7 (by omega)
      have fz : ∀ o : Nat, wr.frozen? ⟨w.heap.size, o, none⟩ = false := fun o => (hB.out.frozen (p := ⟨w.heap.size, o, none⟩) (Nat.lt_succ_self _)).trans (Z0.out o)
      have E := Lib.hid (B0.out.trans (hB.out.mono (Nat.le_succ _)))
      obtain ⟨e0, e1, e2, e3, e4, e5, e6, e7⟩ := res8P (.int .u8 (tlF f 0)) (.int .u8 (tlF f 1)) (.int .u8 (tlF f 2)) (.int .u8 (tlF f 3)) (.int .u8 (tlF f 4)) (.int .u8 (tlF f 5)) (.int .u8 (tlF f 6)) (.int .u8 (tlF f 7)) r0 r1 r2 r3 r4 r5 r6 r7
      clear c hS hF hB
      go_wp2
      refine bodyPost_ret (by simp [results, Try.results15, go_sem, e0, e1, e2, e3, e4, e5, e6, e7]; try rfl) rfl ?_
      refine ⟨rfl, ?_⟩
      go_grown
      exact E.out

end Go.Proofs.Ytopfehbdnopokaa
