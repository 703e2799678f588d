/-
  No statement is proved here: the week of holes in the document's own text; conditions as stated.
-/
import Derived.Test.YtcdjjijagibhlaaDoorHoS
import Derived.Test.YtcdjjijagibhlaaDoorHoX
namespace Go.Proofs.YtcdjjijagibhlaaDoor
open Go.ChangeShapes Go.WideShapes Go.ChangeAt Go.RowKit

/-- The new holes when the stitches before y, x have been gone through, in the document's text. -/
def stS (h : Nat → Int) (need : Int) (y x : Nat) : Nat → Int := fun k => if k < y then weekF h need k else if k = y then ((numTo (upB (bitH (h y)) (fun i => newH h need i y) x) 8 : Nat) : Int) else h k
theorem stS_at (h : Nat → Int) (need : Int) (y x : Nat) : stS h need y x y = ((numTo (upB (bitH (h y)) (fun i => newH h need i y) x) 8 : Nat) : Int) := by unfold stS; rw [if_neg (by omega), if_pos rfl]
theorem stS_other {h : Nat → Int} {need : Int} {y x x' k : Nat} (e : k ≠ y) : stS h need y x k = stS h need y x' k := by unfold stS; rw [if_neg e, if_neg e]
theorem upB_zero (f g : Nat → Bool) : upB f g 0 = f := by funext i; simp [upB]
theorem stS_head {h : Nat → Int} (h8 : Bytes8 h) (need : Int) {y : Nat} (hy : y < 8) : stS h need y 0 y = h y := by
  rw [stS_at, upB_zero]
  exact numTo_bits (h8 y hy)
theorem stS_start {h : Nat → Int} (h8 : Bytes8 h) (need : Int) {k : Nat} : stS h need 0 0 k = h k := by
  by_cases hk : k = 0
  · subst hk
    exact stS_head h8 need (by omega)
  · unfold stS
    rw [if_neg (by omega), if_neg hk]
theorem stS_row {h : Nat → Int} (h8 : Bytes8 h) (need : Int) {y k : Nat} (hk8 : k < 8) : stS h need y 8 k = stS h need (y + 1) 0 k := by
  by_cases h1 : k < y
  · unfold stS
    rw [if_pos h1, if_pos (by omega)]
  · by_cases h2 : k = y
    · subst h2
      rw [stS_at]
      unfold stS
      rw [if_pos (by omega)]
      exact congrArg Nat.cast (numTo_congr 8 fun j hj => by simp [upB, hj])
    · by_cases h3 : k = y + 1
      · subst h3
        rw [stS_head h8 need hk8]
        unfold stS
        rw [if_neg h1, if_neg h2]
      · unfold stS
        rw [if_neg h1, if_neg h2, if_neg (by omega), if_neg h3]
theorem stS_all (h : Nat → Int) (need : Int) {k : Nat} (hk : k < 8) : stS h need 8 0 k = weekF h need k := by unfold stS; rw [if_pos hk]
theorem newH_no {h : Nat → Int} {need : Int} {y x : Nat} (hx : x < 8) (hy : y < 8) (e : ¬ need ≤ cnt4 h x y) : newH h need x y = bitH (h y) x := by
  unfold newH
  rw [decide_eq_false e, Bool.or_false, hasH_in hx hy]
theorem newH_yes {h : Nat → Int} {need : Int} {y x : Nat} (e : need ≤ cnt4 h x y) : newH h need x y = true := by
  unfold newH
  rw [decide_eq_true e, Bool.or_true]
theorem stS_no {h : Nat → Int} {need : Int} {y x : Nat} (hx : x < 8) (hy : y < 8) (e : ¬ need ≤ cnt4 h x y) (k : Nat) : stS h need y (x + 1) k = stS h need y x k := by
  by_cases hk : k = y
  · subst hk
    rw [stS_at, stS_at]
    refine congrArg Nat.cast (numTo_congr 8 fun j _ => ?_)
    unfold upB
    by_cases hj : j = x
    · subst hj
      rw [if_pos (by omega), if_neg (by omega)]
      exact newH_no hx hy e
    · by_cases hl : j < x
      · rw [if_pos (by omega), if_pos hl]
      · rw [if_neg (by omega), if_neg hl]
  · exact stS_other hk
theorem stS_yes {h : Nat → Int} {need : Int} {y x : Nat} (hx : x < 8) (e : need ≤ cnt4 h x y) : bits BinOp.or IntKind.u8 (stS h need y x y) ((2 ^ x : Nat) : Int) = stS h need y (x + 1) y := by
  rw [stS_at, stS_at, or_num _ hx]
  refine congrArg Nat.cast (numTo_congr 8 fun j _ => ?_)
  unfold upB
  by_cases hj : j = x
  · subst hj
    rw [if_pos (by omega : j < j + 1)]
    show (_ || j == j) = newH h need j y
    rw [newH_yes e]
    simp
  · have h2 : (j == x) = false := by simp [hj]
    rw [h2, Bool.or_false]
    by_cases hl : j < x
    · rw [if_pos hl, if_pos (by omega)]
    · rw [if_neg hl, if_neg (by omega)]
/-- The count in the document's order. -/
def cS (h : Nat → Int) (x y : Int) : Nat → Int
  | 0 => 0
  | 1 => b2i (hasH h (x + -1) y)
  | 2 => b2i (hasH h (x + -1) y) + b2i (hasH h x (y + 1))
  | 3 => b2i (hasH h (x + -1) y) + b2i (hasH h x (y + 1)) + b2i (hasH h (x + 1) y)
  | _ => b2i (hasH h (x + -1) y) + b2i (hasH h x (y + 1)) + b2i (hasH h (x + 1) y) + b2i (hasH h x (y + -1))
theorem cS_s0 (h : Nat → Int) (x y : Int) : cS h x y 1 = 0 + b2i (hasH h (x + -1) y) := by simp [cS]
theorem cS_s1 (h : Nat → Int) (x y : Int) : cS h x y 2 = cS h x y 1 + b2i (hasH h x (y + 1)) := rfl
theorem cS_s2 (h : Nat → Int) (x y : Int) : cS h x y 3 = cS h x y 2 + b2i (hasH h (x + 1) y) := rfl
theorem cS_s3 (h : Nat → Int) (x y : Int) : cS h x y 4 = cS h x y 3 + b2i (hasH h x (y + -1)) := rfl
theorem cS_4 (h : Nat → Int) (x y : Int) : cS h x y 4 = cnt4 h x y := by
  have e : cS h x y 4 = b2i (hasH h (x + -1) y) + b2i (hasH h x (y + 1)) + b2i (hasH h (x + 1) y) + b2i (hasH h x (y + -1)) := rfl
  rw [e]
  unfold cnt4
  omega
theorem cS_bd (h : Nat → Int) (x y : Int) (k : Nat) : 0 ≤ cS h x y k ∧ cS h x y k ≤ 4 := by
  have a := b2i_bd (hasH h x (y + -1))
  have b := b2i_bd (hasH h (x + -1) y)
  have c := b2i_bd (hasH h (x + 1) y)
  have d := b2i_bd (hasH h x (y + 1))
  unfold cS
  split <;> omega
/-- A round's head. -/
def BS (h : Nat → Int) (x y : Int) (c i : Value) : Prop :=
  (i = .int .i64 0 ∧ c = .int .i64 0) ∨ (i = .int .i64 1 ∧ c = .int .i64 (cS h x y 1)) ∨ (i = .int .i64 2 ∧ c = .int .i64 (cS h x y 2)) ∨ (i = .int .i64 3 ∧ c = .int .i64 (cS h x y 3)) ∨ (i = .int .i64 4 ∧ c = .int .i64 (cnt4 h x y))

set_option maxRecDepth 100000 in
set_option maxHeartbeats 16000000 in
theorem l06Week_any (A : Nat) (h : Nat → Int) (need : Int) (w : World) (h8 : Bytes8 h) (H : HAt w A h) :
    Calls Tryd.prog 24 #[.pointer (some ⟨A, 0, none⟩), .int .i64 need] w fun e w' => e = .returned (hv (weekF h need)) ∧ Below w.heap.size w w' := by
  have HW := Lib.hid fun (x y : Int) wx (hx : -1 ≤ x ∧ x ≤ 8) (hy : -1 ≤ y ∧ y ≤ 8) (hB : Below w.heap.size w wx) => l06Hole_any A h x y wx h8 (by omega) (by omega) (H.below hB)
  have hZ : ∀ k, k < 8 → h k = stS h need 0 0 k := fun k _ => (stS_start h8 need).symm
  obtain ⟨g0, hg0⟩ : ∃ g : Nat → Int, g = fun _ => 0 := ⟨_, rfl⟩
  obtain ⟨W0, hW0⟩ : ∃ W0, W0 = (w.alloc (.cells #[.int .u8 0, .int .u8 0, .int .u8 0, .int .u8 0, .int .u8 0, .int .u8 0, .int .u8 0, .int .u8 0] 23)).alloc (.cells #[.int .u8 (h 0), .int .u8 (h 1), .int .u8 (h 2), .int .u8 (h 3), .int .u8 (h 4), .int .u8 (h 5), .int .u8 (h 6), .int .u8 (h 7)] 23) := ⟨_, rfl⟩
  have S0 : Hid (HAt W0 (w.heap.size + 1) (stS h need 0 0)) := Lib.hid (HAt.congr (by
    rw [hW0]
    have := hat_made (w.alloc (.cells #[.int .u8 0, .int .u8 0, .int .u8 0, .int .u8 0, .int .u8 0, .int .u8 0, .int .u8 0, .int .u8 0] 23)) 23 h
    simpa only [World.size_alloc] using this) hZ)
  have F0 : Hid (∀ o : Nat, W0.frozen? ⟨w.heap.size + 1, o, none⟩ = false) := Lib.hid fun o => by rw [hW0]; simp [go_sem]
  have B0 : Hid (Below w.heap.size w W0) := Lib.hid (by rw [hW0]; go_grown)
  have R0 : Hid (HAt W0 w.heap.size (fun _ => 0)) := Lib.hid (by
    rw [hW0]
    exact (hat_made w 23 (fun _ => 0)).below ((Below.refl _ _).alloc (Nat.le_refl _) _))
  have Z0 : Hid (∀ o : Nat, W0.frozen? ⟨w.heap.size, o, none⟩ = false) := Lib.hid fun o => by rw [hW0]; simp [go_sem]
  have N0 : Hid (W0.heap.size = w.heap.size + 1 + 1) := Lib.hid (by rw [hW0]; simp)
  have HW0 := Lib.hid hW0
  have HR := Lib.hid fun (y k : Nat) (hk : k < 8) => stS_row h8 need (y := y) hk
  have a0 := H 0 (by omega)
  have a1 := H 1 (by omega)
  have a2 := H 2 (by omega)
  have a3 := H 3 (by omega)
  have a4 := H 4 (by omega)
  have a5 := H 5 (by omega)
  have a6 := H 6 (by omega)
  have a7 := H 7 (by omega)
  have k0 : ∀ (o : Nat) (v : Value), w.cell? ⟨A, o, none⟩ = some v → (w.alloc (.cells #[.int .u8 0, .int .u8 0, .int .u8 0, .int .u8 0, .int .u8 0, .int .u8 0, .int .u8 0, .int .u8 0] 23)).cell? ⟨A, o, none⟩ = some v := fun o v hc => kept ((Below.refl _ _).alloc (Nat.le_refl _) _) (World.block_lt_of_cell? w _ hc) hc
  have b0 := k0 _ _ a0
  have b1 := k0 _ _ a1
  have b2 := k0 _ _ a2
  have b3 := k0 _ _ a3
  have b4 := k0 _ _ a4
  have b5 := k0 _ _ a5
  have b6 := k0 _ _ a6
  have b7 := k0 _ _ a7
  clear hW0 hZ H h8 a0 a1 a2 a3 a4 a5 a6 a7 k0
  go_enter Tryd.func24, Tryd.ntmps24
  go_wp2_with fail
  rw [← HW0.out]
  clear b0 b1 b2 b3 b4 b5 b6 b7
  go_loopw [6] (fun i wr => ∃ y : Nat, y ≤ 8 ∧ i = .int .i64 y ∧ Hid (HAt wr (w.heap.size + 1) (stS h need y 0)) ∧ Hid (∀ o : Nat, wr.frozen? ⟨w.heap.size + 1, o, none⟩ = false) ∧ Hid (Below (w.heap.size + 1) W0 wr)) (fun i _ => 8 - (intOf i).toNat)
  case atStart => exact ⟨0, by omega, rfl, S0, F0, Lib.hid (Below.refl _ _)⟩
  case round =>
    obtain ⟨y, hy, rfl, hS, hF, hB⟩ := hrel
    by_cases hlt : y < 8
    · obtain ⟨wo, rfl⟩ : ∃ wo : World, wo = wr := ⟨_, rfl⟩
      have hd : decide ((y : Int) < 8) = true := decide_eq_true (by omega)
      go_wp2_with fail
      go_loopw [7] (fun i wr => ∃ x : Nat, x ≤ 8 ∧ i = .int .i64 x ∧ Hid (HAt wr (w.heap.size + 1) (stS h need y x)) ∧ Hid (∀ o : Nat, wr.frozen? ⟨w.heap.size + 1, o, none⟩ = false) ∧ Hid (Below (w.heap.size + 1) W0 wr)) (fun i _ => 8 - (intOf i).toNat)
      case atStart => exact ⟨0, by omega, rfl, hS, hF, hB⟩
      case round =>
        obtain ⟨x, hx, rfl, hS2, hF2, hB2⟩ := hrel
        by_cases hxlt : x < 8
        · obtain ⟨w3, rfl⟩ : ∃ w3 : World, w3 = wr := ⟨_, rfl⟩
          have hdx : decide ((x : Int) < 8) = true := decide_eq_true (by omega)
          have HB2 := Lib.hid (B0.out.trans (hB2.out.mono (Nat.le_succ _)))
          have H0 := Lib.hid (HW.out ((x : Int) + -1) y w3 (by omega) (by omega) HB2.out)
          have H1 := Lib.hid (HW.out x ((y : Int) + 1) w3 (by omega) (by omega) HB2.out)
          have H2 := Lib.hid (HW.out ((x : Int) + 1) y w3 (by omega) (by omega) HB2.out)
          have H3 := Lib.hid (HW.out x ((y : Int) + -1) w3 (by omega) (by omega) HB2.out)
          have HC := Lib.hid fun k => cS_bd h x y k
          have hc4 := (cS_4 h x y) ▸ cS_bd h x y 4
          have hSN := Lib.hid fun (e : cnt4 h x y < need) => stS_no (h := h) (need := need) (y := y) (x := x) hxlt hlt (by omega)
          have hSY := Lib.hid fun e => stS_yes (h := h) (need := need) (y := y) (x := x) hxlt e
          have C4 := Lib.hid (cS_4 h x y)
          go_wp2_with fail
          go_loop [8, 9] (fun c i => BS h x y c i) (fun _ i => 4 - (intOf i).toNat)
          case atStart => exact .inl ⟨rfl, rfl⟩
          case round =>
            rcases hrel with ⟨rfl, rfl⟩ | ⟨rfl, rfl⟩ | ⟨rfl, rfl⟩ | ⟨rfl, rfl⟩ | ⟨rfl, rfl⟩
            · have E := Lib.hid (cS_s0 h x y)
              have bd := HC.out 0
              generalize hasH h (↑x + -1) ↑y = r at *
              cases r with
              | true =>
                go_wp2_with fail
                refine H0.out.mono ?_
                rintro e w2 ⟨rfl, rfl⟩
                go_wp2_with fail
                go_round
                case rel => exact .inr (.inl ⟨rfl, by rw [E.out]; rfl⟩)
                case measure => simp [intOf]
              | false =>
                go_wp2_with fail
                refine H0.out.mono ?_
                rintro e w2 ⟨rfl, rfl⟩
                go_wp2_with fail
                go_round
                case rel => exact .inr (.inl ⟨rfl, by rw [E.out]; rfl⟩)
                case measure => simp [intOf]
            · have E := Lib.hid (cS_s1 h x y)
              have bd := HC.out 1
              generalize hasH h ↑x (↑y + 1) = r at *
              generalize cS h ↑x ↑y 1 = ck at *
              cases r with
              | true =>
                go_wp2_with fail
                refine H1.out.mono ?_
                rintro e w2 ⟨rfl, rfl⟩
                go_wp2_with fail
                go_round
                case rel => exact .inr (.inr (.inl ⟨rfl, by rw [E.out]; rfl⟩))
                case measure => simp [intOf]
              | false =>
                go_wp2_with fail
                refine H1.out.mono ?_
                rintro e w2 ⟨rfl, rfl⟩
                go_wp2_with fail
                go_round
                case rel => exact .inr (.inr (.inl ⟨rfl, by rw [E.out]; rw [b2i_f, Int.add_zero]⟩))
                case measure => simp [intOf]
            · have E := Lib.hid (cS_s2 h x y)
              have bd := HC.out 2
              generalize hasH h (↑x + 1) ↑y = r at *
              generalize cS h ↑x ↑y 2 = ck at *
              cases r with
              | true =>
                go_wp2_with fail
                refine H2.out.mono ?_
                rintro e w2 ⟨rfl, rfl⟩
                go_wp2_with fail
                go_round
                case rel => exact .inr (.inr (.inr (.inl ⟨rfl, by rw [E.out]; rfl⟩)))
                case measure => simp [intOf]
              | false =>
                go_wp2_with fail
                refine H2.out.mono ?_
                rintro e w2 ⟨rfl, rfl⟩
                go_wp2_with fail
                go_round
                case rel => exact .inr (.inr (.inr (.inl ⟨rfl, by rw [E.out]; rw [b2i_f, Int.add_zero]⟩)))
                case measure => simp [intOf]
            · have E := Lib.hid (C4.out.symm.trans (cS_s3 h x y))
              have bd := HC.out 3
              generalize hasH h ↑x (↑y + -1) = r at *
              generalize cS h ↑x ↑y 3 = ck at *
              cases r with
              | true =>
                go_wp2_with fail
                refine H3.out.mono ?_
                rintro e w2 ⟨rfl, rfl⟩
                go_wp2_with fail
                go_round
                case rel => exact .inr (.inr (.inr (.inr (⟨rfl, by rw [E.out]; rfl⟩))))
                case measure => simp [intOf]
              | false =>
                go_wp2_with fail
                refine H3.out.mono ?_
                rintro e w2 ⟨rfl, rfl⟩
                go_wp2_with fail
                go_round
                case rel => exact .inr (.inr (.inr (.inr (⟨rfl, by rw [E.out]; rw [b2i_f, Int.add_zero]⟩))))
                case measure => simp [intOf]
            · generalize cnt4 h x y = c at *
              by_cases hn : need ≤ c
              · have S3 := Lib.hid hS2.out
                have c0 := S3.out y hlt
                have f0 := hF2.out y
                have HY := Lib.hid ((congrArg _ (pow8 hxlt)).trans (hSY.out hn))
                go_wp2_with fail
                go_roundw
                case rel => exact ⟨x + 1, by omega, by go_num, Lib.hid (by rw [HY.out]; exact S3.out.set hlt fun k _ hne => stS_other hne), Lib.hid fun o => (by simpa using hF2.out o), Lib.hid (hB2.out.setCell (Nat.le_refl _) _)⟩
                case measure => simp [intOf]; omega
              · have S3 := Lib.hid (hS2.out.congr fun k _ => (hSN.out (by omega) k).symm)
                have hn' : c < need := by omega
                go_wp2_with fail
                go_roundw
                case rel => exact ⟨x + 1, by omega, by go_num, S3, hF2, hB2⟩
                case measure => simp [intOf]; omega
        · have hx8 : x = 8 := by omega
          subst hx8
          go_wp2_with fail
          go_roundw
          case rel => exact ⟨y + 1, by omega, by go_num, Lib.hid (hS2.out.congr fun k hk => HR.out y k hk), hF2, hB2⟩
          case measure => simp [intOf]; omega
    · have hy8 : y = 8 := by omega
      subst hy8
      have c := hS.out.congr fun k hk => stS_all h need hk
      have c0 := c 0 (by omega)
      have c1 := c 1 (by omega)
      have c2 := c 2 (by omega)
      have c3 := c 3 (by omega)
      have c4 := c 4 (by omega)
      have c5 := c 5 (by omega)
      have c6 := c 6 (by omega)
      have c7 := c 7 (by omega)
      have R := Lib.hid fun j hj => (hB.out.cell (p := ⟨w.heap.size, j, none⟩) (Nat.lt_succ_self _)).trans (R0.out j hj)
      have r0 := R.out 0 (by omega)
      have r1 := R.out 1 (by omega)
      have r2 := R.out 2 (by omega)
      have r3 := R.out 3 (by omega)
      have r4 := R.out 4 (by omega)
      have r5 := R.out 5 (by omega)
      have r6 := R.out 6 (by omega)
      have r7 := R.out 7 (by omega)
      have fz : ∀ o : Nat, wr.frozen? ⟨w.heap.size, o, none⟩ = false := fun o => (hB.out.frozen (p := ⟨w.heap.size, o, none⟩) (Nat.lt_succ_self _)).trans (Z0.out o)
      have E := Lib.hid (B0.out.trans (hB.out.mono (Nat.le_succ _)))
      obtain ⟨e0, e1, e2, e3, e4, e5, e6, e7⟩ := res8 (.int .u8 (weekF h need 0)) (.int .u8 (weekF h need 1)) (.int .u8 (weekF h need 2)) (.int .u8 (weekF h need 3)) (.int .u8 (weekF h need 4)) (.int .u8 (weekF h need 5)) (.int .u8 (weekF h need 6)) (.int .u8 (weekF h need 7)) r0 r1 r2 r3 r4 r5 r6 r7
      clear c hS hF hB
      go_wp2
      refine bodyPost_ret (by simp [results, Tryd.results24, go_sem, e0, e1, e2, e3, e4, e5, e6, e7]; try rfl) rfl ?_
      refine ⟨rfl, ?_⟩
      go_grown
      exact E.out
end Go.Proofs.YtcdjjijagibhlaaDoor
