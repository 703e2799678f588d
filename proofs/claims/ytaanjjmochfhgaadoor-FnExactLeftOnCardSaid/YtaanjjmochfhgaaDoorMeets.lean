/-
  No statement is proved here: dyes as bits, and meets that are valid, as the program and as the document's own text tell them; condition: the numbers are bytes.
-/
import Derived.Test.YtaanjjmochfhgaaDoorBase
import Derived.Test.YtaanjjmochfhgaaDoorIn
import Derived.Deep.RegionWith
import Derived.Deep.DeepCutAuto
import Derived.RegionTactic
namespace Go.Proofs.YtaanjjmochfhgaaDoor
open Go.ChangeShapes Go.WideShapes Go.ChangeAt Go.RowKit

theorem and_one : ∀ y : Fin 256, bits BinOp.and IntKind.u8 (y.val : Int) 1 = (y.val : Int) % 2 := by decide +kernel
theorem and_one' {y : Int} (h : 0 ≤ y ∧ y ≤ 255) : bits BinOp.and IntKind.u8 y 1 = y % 2 := by
  have := and_one ⟨y.toNat, by omega⟩
  simpa [Int.toNat_of_nonneg h.1] using this
/-- The bit d of x. -/
def bitv (x : Int) (d : Nat) : Int := x / 2 ^ d % 2
def hasB (x : Int) (d : Nat) : Bool := bitv x d == 1
theorem shr_bd {x : Int} (h : 0 ≤ x ∧ x ≤ 255) (d : Nat) : 0 ≤ x / 2 ^ d ∧ x / 2 ^ d ≤ 255 :=
  ⟨Int.ediv_nonneg h.1 (Int.le_of_lt (Int.pow_pos (by omega))), Int.le_trans (Int.ediv_le_self _ h.1) h.2⟩
theorem bitv_bd (x : Int) (d : Nat) : 0 ≤ bitv x d ∧ bitv x d ≤ 1 := by unfold bitv; omega
theorem bitv_eq (x y : Int) (a b : Nat) : (bitv x a = bitv y b) ↔ (hasB x a = hasB y b) := by
  have h1 := bitv_bd x a
  have h2 := bitv_bd y b
  unfold hasB
  rcases (show bitv x a = 0 ∨ bitv x a = 1 by omega) with e1 | e1 <;> rcases (show bitv y b = 0 ∨ bitv y b = 1 by omega) with e2 | e2 <;> rw [e1, e2] <;> simp

theorem has_any (x : Int) (d : Nat) (w : World) (hx : 0 ≤ x ∧ x ≤ 255) (hd : d ≤ 8) :
    Calls Tryd.prog 56 #[.int .u8 x, .int .u8 d] w fun e w' => e = .returned (.bool (hasB x d)) ∧ w = w' := by
  have hm : min d 8 = d := by omega
  have hA := and_one' (shr_bd hx d)
  go_enter Tryd.func56, Tryd.ntmps56
  go_wp2
  go_ret
  exact ⟨ret_bool rfl, rfl⟩

/-- Meets as a value. -/
def mv (m : Nat → Int) : Value := .agg #[.int .u8 (m 0), .int .u8 (m 1), .int .u8 (m 2), .int .u8 (m 3), .int .u8 (m 4), .int .u8 (m 5)]
def Bytes6 (m : Nat → Int) : Prop := ∀ k, 0 ≤ m k ∧ m k ≤ 255
def MAt (w : World) (b : Nat) (m : Nat → Int) : Prop := ∀ k, k < 6 → w.cell? ⟨b, k, none⟩ = some (.int .u8 (m k))
theorem MAt.below {w w' : World} {b B : Nat} {m : Nat → Int} (h : MAt w b m) (hB : Below B w w') (hb : b < B) : MAt w' b m :=
  fun k hk => (hB.cell (p := ⟨b, k, none⟩) hb).trans (h k hk)
theorem mAt_made (w : World) (t : TypeId) (m : Nat → Int) : MAt (w.alloc (.cells #[.int .u8 (m 0), .int .u8 (m 1), .int .u8 (m 2), .int .u8 (m 3), .int .u8 (m 4), .int .u8 (m 5)] t)) w.heap.size m := fun k hk => by
  have h6 : k = 0 ∨ k = 1 ∨ k = 2 ∨ k = 3 ∨ k = 4 ∨ k = 5 := by omega
  rcases h6 with rfl | rfl | rfl | rfl | rfl | rfl <;> simp [go_sem]

set_option maxHeartbeats 1000000 in
theorem partners_any (m : Nat → Int) (d : Nat) (w : World) (hd : d < 6) :
    Calls Tryd.prog 55 #[.int .u8 d, mv m] w fun e w' => e = .returned (.int .u8 (m d)) ∧ Below w.heap.size w w' := by
  have hc := mAt_made w 27 m d hd
  have hd6 : (d : Int) < 6 := by omega
  unfold mv
  generalize m d = x at *
  go_enter Tryd.func55, Tryd.ntmps55
  go_wp2
  go_ret
  exact ⟨rfl, by go_grown⟩

/-- A dye's own row is right; two rows fit each other. -/
def rowB (m : Nat → Int) (a : Nat) : Bool := (m a / 64 == 0) && hasB (m a) a
def symB (m : Nat → Int) (a b : Nat) : Bool := hasB (m a) b == hasB (m b) a
def meetsB (m : Nat → Int) : Bool := (List.range 6).all fun a => rowB m a && (List.range 6).all fun b => symB m a b
theorem symB_comm {m : Nat → Int} {a b : Nat} (h : symB m a b = true) : symB m b a = true := by unfold symB at *; rw [beq_iff_eq] at *; exact h.symm
theorem meetsB_yes {m : Nat → Int} (h : ∀ a, a < 6 → rowB m a = true ∧ ∀ b, b < a → symB m a b = true) : meetsB m = true := by
  unfold meetsB
  rw [List.all_eq_true]
  intro a ha
  have ha := List.mem_range.1 ha
  rw [Bool.and_eq_true, List.all_eq_true]
  refine ⟨(h a ha).1, fun b hb => ?_⟩
  have hb := List.mem_range.1 hb
  rcases Nat.lt_trichotomy b a with hlt | rfl | hlt
  · exact (h a ha).2 b hlt
  · unfold symB; simp
  · exact symB_comm ((h b hb).2 a hlt)
theorem meetsB_row {m : Nat → Int} (h : meetsB m = true) {a : Nat} (ha : a < 6) : rowB m a = true := by
  unfold meetsB at h
  rw [List.all_eq_true] at h
  have := h a (List.mem_range.2 ha)
  rw [Bool.and_eq_true] at this
  exact this.1
theorem meetsB_sym {m : Nat → Int} (h : meetsB m = true) {a b : Nat} (ha : a < 6) (hb : b < 6) : symB m a b = true := by
  unfold meetsB at h
  rw [List.all_eq_true] at h
  have := h a (List.mem_range.2 ha)
  rw [Bool.and_eq_true, List.all_eq_true] at this
  exact this.2 b (List.mem_range.2 hb)
theorem meetsB_noRow {m : Nat → Int} {a : Nat} (ha : a < 6) (h : rowB m a = false) : meetsB m = false := by
  cases hm : meetsB m with
  | false => rfl
  | true => rw [meetsB_row hm ha] at h; cases h
theorem meetsB_noSym {m : Nat → Int} {a b : Nat} (ha : a < 6) (hb : b < 6) (h : symB m a b = false) : meetsB m = false := by
  cases hm : meetsB m with
  | false => rfl
  | true => rw [meetsB_sym hm ha hb] at h; cases h

set_option maxRecDepth 100000 in
set_option maxHeartbeats 4000000 in
theorem l04Meets_any (m : Nat → Int) (b : Nat) (w : World) (hM : MAt w b m) (h8 : Bytes6 m) :
    Calls Tryd.prog 41 #[.pointer (some ⟨b, 0, none⟩)] w fun e w' => e = .returned (.bool (meetsB m)) ∧ Below w.heap.size w w' := by
  have JY := Lib.hid fun h => meetsB_yes (m := m) h
  have JR := Lib.hid fun a (ha : a < 6) h => meetsB_noRow (m := m) (a := a) ha h
  have JS := Lib.hid fun a c (ha : a < 6) (hc : c < 6) h => meetsB_noSym (m := m) (a := a) (b := c) ha hc h
  have HM := Lib.hid hM
  generalize meetsB m = out at *
  clear hM
  go_enter Tryd.func41, Tryd.ntmps41
  go_wp2
  go_loopw [3] (fun i wr => ∃ k : Nat, k ≤ 6 ∧ i = .int .i64 k ∧ Hid (∀ a, a < k → rowB m a = true ∧ ∀ c, c < a → symB m a c = true) ∧ Below w.heap.size w wr) (fun i _ => 6 - (intOf i).toNat)
  case atStart => exact ⟨0, Nat.zero_le _, rfl, Lib.hid (fun a ha => by omega), Below.refl _ _⟩
  case round =>
    obtain ⟨k, hk, rfl, hS, hB⟩ := hrel
    have hB0 := Lib.hid hB
    have c0 := Lib.hid fun j (hj : j < 6) => (hB.cell (p := ⟨b, j, none⟩) (World.block_lt_of_cell? w _ (HM.out j hj))).trans (HM.out j hj)
    clear hB
    by_cases hlt : k < 6
    · have c1 := c0.out k hlt
      have x0 := h8 k
      have hk6 : (k : Int) < 6 := by omega
      have hm8 : min k 8 = k := by omega
      have hr := JR.out k hlt
      have hrow : rowB m k = ((m k / 64 == 0) && hasB (m k) k) := rfl
      have HSy := Lib.hid (show ∀ c, symB m k c = (hasB (m k) c == hasB (m c) k) from fun c => rfl)
      obtain ⟨x, hx⟩ : ∃ x, x = m k := ⟨_, rfl⟩
      rw [← hx] at c1 x0 hrow HSy
      have HX := Lib.hid hx
      clear hx
      by_cases h1 : x / 64 = 0
      · rcases (show bitv x k = 0 ∨ bitv x k = 1 by have := bitv_bd x k; omega) with h2 | h2
        · have ht : (x / 2 ^ k).tmod 2 = 0 := (Int.tmod_eq_emod_of_nonneg (shr_bd x0 k).1).trans h2
          have HE := Lib.hid (hr (by rw [hrow]; unfold hasB; rw [h2]; simp))
          clear hr hrow HSy h2
          go_wp2
          go_ret
          exact ⟨ret_bool HE.out.symm, hB0.out⟩
        · have ht : (x / 2 ^ k).tmod 2 = 1 := (Int.tmod_eq_emod_of_nonneg (shr_bd x0 k).1).trans h2
          have HR := Lib.hid (show rowB m k = true by rw [hrow]; unfold hasB; rw [h1, h2]; rfl)
          clear hr hrow h2
          go_wp2
          go_loopw [4] (fun i wz => ∃ j : Nat, j ≤ 6 ∧ i = .int .i64 j ∧ Hid (∀ c, c < j → symB m k c = true) ∧ Hid (Below wr.heap.size wr wz)) (fun i _ => 6 - (intOf i).toNat)
          case atStart => exact ⟨0, Nat.zero_le _, rfl, Lib.hid (fun c hc => by omega), Lib.hid (Below.refl _ _)⟩
          case round =>
            obtain ⟨j, hj, rfl, hJ, hBz⟩ := hrel
            have hB1 := Lib.hid (hB0.out.trans (hBz.out.mono hB0.out.size))
            by_cases hjl : j < 6
            · have c2 := (hBz.out.cell (p := ⟨b, j, none⟩) (World.block_lt_of_cell? _ _ (c0.out j hjl))).trans (c0.out j hjl)
              have c1 := (hBz.out.cell (p := ⟨b, k, none⟩) (World.block_lt_of_cell? _ _ c1)).trans c1
              have y0 := h8 j
              have hj6 : (j : Int) < 6 := by omega
              have hj8 : min j 8 = j := by omega
              have hsy := HSy.out j
              have hno := JS.out k j hlt hjl
              generalize m j = y at *
              have e1 : (x / 2 ^ j).tmod 2 = bitv x j := Int.tmod_eq_emod_of_nonneg (shr_bd x0 j).1
              have e2 : (y / 2 ^ k).tmod 2 = bitv y k := Int.tmod_eq_emod_of_nonneg (shr_bd y0 k).1
              have hbe := bitv_eq x y j k
              generalize bitv x j = r1 at *
              generalize bitv y k = r2 at *
              by_cases hrr : r1 = r2
              · have HY2 := Lib.hid (show ∀ c, c < j + 1 → symB m k c = true from fun c hc => by
                  by_cases hcj : c = j
                  · subst hcj; rw [hsy, beq_iff_eq]; exact hbe.1 hrr
                  · exact hJ.out c (by omega))
                subst hrr
                clear hsy hno hbe
                go_wp2_with fail
                go_quiet (fail)
                go_wp2
                go_round
                case rel => exact ⟨j + 1, by omega, by go_num, HY2, Lib.hid (hBz.out.trans ((bdN _ _).mono hBz.out.size))⟩
                case measure => simp [intOf]; omega
              · have HE := Lib.hid (hno (by rw [hsy, beq_eq_false_iff_ne]; exact fun h => hrr (hbe.2 h)))
                have hrn : (r1 != r2) = true := by simp [hrr]
                clear hsy hno hbe
                go_wp2_with fail
                go_quiet (fail)
                go_wp2
                go_ret
                exact ⟨ret_bool HE.out.symm, hB1.out.trans ((bdN _ _).mono hB1.out.size)⟩
            · have hS2 := Lib.hid (show ∀ a, a < k + 1 → rowB m a = true ∧ ∀ c, c < a → symB m a c = true from fun a ha => by
                by_cases hak : a = k
                · subst hak; exact ⟨HR.out, fun c hc => hJ.out c (by omega)⟩
                · exact hS.out a (by omega))
              go_wp2
              go_roundw
              case rel => exact ⟨k + 1, by omega, by go_num, hS2, hB1.out⟩
              case measure => simp [intOf]; omega
      · have hne : (x / 64 != 0) = true := by simp [h1]
        have HE := Lib.hid (hr (by rw [hrow, show (x / 64 == 0) = false by simp [h1]]; rfl))
        clear hr hrow HSy
        go_wp2
        go_ret
        exact ⟨ret_bool HE.out.symm, hB0.out⟩
    · have HE := Lib.hid (JY.out fun a ha => hS.out a (by omega))
      go_wp2
      go_ret
      exact ⟨ret_bool HE.out.symm, hB0.out⟩

/-- The law's copy of meets. -/
theorem toMeets_any (m : Nat → Int) (w : World) :
    Calls Tryd.prog 9 #[mv m] w fun e w' => e = .returned (mv m) ∧ Below w.heap.size w w' := by
  unfold mv
  go_enter Tryd.func9, Tryd.ntmps9
  go_wp2
  go_rounds 7
  refine bodyPost_ret (v := .agg #[.int .u8 (m 0), .int .u8 (m 1), .int .u8 (m 2), .int .u8 (m 3), .int .u8 (m 4), .int .u8 (m 5)]) (by simp [results, go_sem, Tryd.f9]) rfl ?_
  exact ⟨rfl, by go_grown⟩

set_option maxRecDepth 100000 in
set_option maxHeartbeats 4000000 in
theorem implMeets_any (m : Nat → Int) (w : World) (h8 : Bytes6 m) :
    Calls Tryd.prog 52 #[mv m] w fun e w' => e = .returned (.bool (meetsB m)) ∧ Below w.heap.size w w' := by
  have JY := Lib.hid fun h => meetsB_yes (m := m) h
  have JR := Lib.hid fun a (ha : a < 6) h => meetsB_noRow (m := m) (a := a) ha h
  have JS := Lib.hid fun a c (ha : a < 6) (hc : c < 6) h => meetsB_noSym (m := m) (a := a) (b := c) ha hc h
  have HM := Lib.hid (mAt_made w 27 m)
  have HP := Lib.hid fun d wx (hd : d < 6) => partners_any m d wx hd
  unfold mv at *
  generalize meetsB m = out at *
  obtain ⟨B, hBe⟩ : ∃ B, B = w.heap.size := ⟨_, rfl⟩
  rw [← hBe] at HM ⊢
  have HBe := Lib.hid hBe
  clear hBe
  have B0 := Lib.hid (show Below B w (w.alloc (.cells #[.int .u8 (m 0), .int .u8 (m 1), .int .u8 (m 2), .int .u8 (m 3), .int .u8 (m 4), .int .u8 (m 5)] 27)) from (Below.refl B w).alloc (Nat.le_of_eq HBe.out) _)
  have Z0 := Lib.hid (show B < (w.alloc (.cells #[.int .u8 (m 0), .int .u8 (m 1), .int .u8 (m 2), .int .u8 (m 3), .int .u8 (m 4), .int .u8 (m 5)] 27)).heap.size by rw [HBe.out]; simp)
  go_enter Tryd.func52, Tryd.ntmps52
  go_wp2
  rw [← HBe.out]
  go_loopw [6] (fun i wr => ∃ k : Nat, k ≤ 6 ∧ i = .int .u8 k ∧ Hid (∀ a, a < k → rowB m a = true ∧ ∀ c, c < a → symB m a c = true) ∧ Hid (Below B w wr) ∧ Hid (MAt wr B m) ∧ Hid (B < wr.heap.size)) (fun i _ => 6 - (intOf i).toNat)
  case atStart => exact ⟨0, Nat.zero_le _, rfl, Lib.hid (fun a ha => by omega), B0, HM, Z0⟩
  case round =>
    clear B0 HM Z0
    obtain ⟨k, hk, rfl, hS, hB, hM, hZ⟩ := hrel
    by_cases hlt : k < 6
    · obtain ⟨c0, c1, c2, c3, c4, c5⟩ := (show _ ∧ _ ∧ _ ∧ _ ∧ _ ∧ _ from ⟨hM.out 0 (by omega), hM.out 1 (by omega), hM.out 2 (by omega), hM.out 3 (by omega), hM.out 4 (by omega), hM.out 5 (by omega)⟩)
      have x0 := h8 k
      have hr := JR.out k hlt
      have hrow : rowB m k = ((m k / 64 == 0) && hasB (m k) k) := rfl
      have HSy := Lib.hid (show ∀ c, symB m k c = (hasB (m k) c == hasB (m c) k) from fun c => rfl)
      have HPk := Lib.hid fun wx => HP.out k wx hlt
      obtain ⟨x, hx⟩ : ∃ x, x = m k := ⟨_, rfl⟩
      rw [← hx] at x0 hrow HSy HPk
      have HX := Lib.hid hx
      clear hx
      have HH := Lib.hid fun d wx hd => has_any x d wx x0 hd
      by_cases h1 : x / 64 = 0
      · cases h2 : hasB x k with
        | false =>
          have HE := Lib.hid (hr (by rw [hrow, h2]; simp))
          have HH1 := Lib.hid fun wx => HH.out k wx (by omega)
          rw [h2] at HH1
          clear hr hrow HSy h2
          go_wp2_with fail
          refine (HPk.out _).mono ?_
          rintro e w2 ⟨rfl, hB2⟩
          have B2 := Lib.hid (hB.out.trans (hB2.mono (Nat.le_of_lt hZ.out)))
          clear hB2 c0 c1 c2 c3 c4 c5
          go_wp2_with fail
          refine (HH1.out _).mono ?_
          rintro e w' ⟨rfl, rfl⟩
          go_wp2
          go_ret
          exact ⟨ret_bool HE.out.symm, B2.out⟩
        | true =>
          have HR := Lib.hid (show rowB m k = true by rw [hrow, h1, h2]; rfl)
          have HH1 := Lib.hid fun wx => HH.out k wx (by omega)
          rw [h2] at HH1
          clear hr hrow h2
          go_wp2_with fail
          refine (HPk.out _).mono ?_
          rintro e w2 ⟨rfl, hB2⟩
          have B2 := Lib.hid (hB.out.trans (hB2.mono (Nat.le_of_lt hZ.out)))
          have M2 := Lib.hid (hM.out.below hB2 hZ.out)
          have Z2 := Lib.hid (Nat.lt_of_lt_of_le hZ.out hB2.size)
          clear hB2 c0 c1 c2 c3 c4 c5 hB hM hZ
          go_wp2_with fail
          refine (HH1.out _).mono ?_
          rintro e w' ⟨rfl, rfl⟩
          go_wp2_with fail
          go_loopw [22] (fun i wz => ∃ j : Nat, j ≤ k ∧ i = .int .u8 j ∧ Hid (∀ c, c < j → symB m k c = true) ∧ Hid (Below B w wz) ∧ Hid (MAt wz B m) ∧ Hid (B < wz.heap.size)) (fun i _ => 6 - (intOf i).toNat)
          case atStart => exact ⟨0, Nat.zero_le _, rfl, Lib.hid (fun c hc => by omega), B2, M2, Z2⟩
          case round =>
            clear B2 M2 Z2
            obtain ⟨j, hj, rfl, hJ, hB, hM, hZ⟩ := hrel
            by_cases hjl : j < k
            · obtain ⟨c0, c1, c2, c3, c4, c5⟩ := (show _ ∧ _ ∧ _ ∧ _ ∧ _ ∧ _ from ⟨hM.out 0 (by omega), hM.out 1 (by omega), hM.out 2 (by omega), hM.out 3 (by omega), hM.out 4 (by omega), hM.out 5 (by omega)⟩)
              have y0 := h8 j
              have hsy := HSy.out j
              have hno := JS.out k j hlt (by omega)
              have HPj := Lib.hid fun wx => HP.out j wx (by omega)
              have HHj := Lib.hid fun wx => HH.out j wx (by omega)
              have HHy := Lib.hid fun wx => has_any (m j) k wx y0 (by omega)
              generalize hasB x j = r1 at *
              generalize hasB (m j) k = r2 at *
              obtain ⟨y, hy⟩ : ∃ y, y = m j := ⟨_, rfl⟩
              rw [← hy] at HPj HHy y0
              clear hy
              by_cases hrr : r1 = r2
              · have HY2 := Lib.hid (show ∀ c, c < j + 1 → symB m k c = true from fun c hc => by
                  by_cases hcj : c = j
                  · subst hcj; rw [hsy, hrr]; simp
                  · exact hJ.out c (by omega))
                subst hrr
                have hbb : (r1 != r1) = false := by simp
                clear hsy hno
                go_wp2_with fail
                go_region_with (first
                  | (go_at_call 56; first | (refine (HHj.out _).mono ?_; rintro e w' ⟨rfl, rfl⟩) | (refine (HHy.out _).mono ?_; rintro e w' ⟨rfl, rfl⟩))
                  | (go_at_call 55; refine (HPj.out wr.drew).mono ?_; rintro e w3 ⟨rfl, hB3⟩; have H3 := Lib.hid hB3; clear hB3))
                · have B3 := Lib.hid (Below.trans hB.out.drew (Below.mono H3.out (show B ≤ wr.drew.heap.size from Nat.le_of_lt hZ.out)))
                  have M3 := Lib.hid (MAt.below (show MAt wr.drew B m from hM.out) H3.out hZ.out)
                  have Z3 := Lib.hid (Nat.lt_of_lt_of_le hZ.out H3.out.size)
                  clear H3 c0 c1 c2 c3 c4 c5
                  go_wp2
                  go_roundw
                  case rel => exact ⟨j + 1, by omega, by go_num, HY2, B3, M3, Z3⟩
                  case measure => simp [intOf]; omega
                · have B3 := Lib.hid (Below.trans hB.out.drew (Below.mono H3.out (show B ≤ wr.drew.heap.size from Nat.le_of_lt hZ.out)))
                  have M3 := Lib.hid (MAt.below (show MAt wr.drew B m from hM.out) H3.out hZ.out)
                  have Z3 := Lib.hid (Nat.lt_of_lt_of_le hZ.out H3.out.size)
                  clear H3 c0 c1 c2 c3 c4 c5
                  go_wp2
                  go_roundw
                  case rel => exact ⟨j + 1, by omega, by go_num, HY2, B3, M3, Z3⟩
                  case measure => simp [intOf]; omega
              · have HE := Lib.hid (hno (by rw [hsy, beq_eq_false_iff_ne]; exact hrr))
                have hrn : (r1 == r2) = false := by simp [hrr]
                clear hsy hno
                go_wp2_with fail
                go_region_with (first
                  | (go_at_call 56; first | (refine (HHj.out _).mono ?_; rintro e w' ⟨rfl, rfl⟩) | (refine (HHy.out _).mono ?_; rintro e w' ⟨rfl, rfl⟩))
                  | (go_at_call 55; refine (HPj.out wr.drew).mono ?_; rintro e w3 ⟨rfl, hB3⟩; have H3 := Lib.hid hB3; clear hB3))
                · have B3 := Lib.hid (Below.trans hB.out.drew (Below.mono H3.out (show B ≤ wr.drew.heap.size from Nat.le_of_lt hZ.out)))
                  have M3 := Lib.hid (MAt.below (show MAt wr.drew B m from hM.out) H3.out hZ.out)
                  have Z3 := Lib.hid (Nat.lt_of_lt_of_le hZ.out H3.out.size)
                  clear H3 c0 c1 c2 c3 c4 c5
                  go_wp2
                  go_ret
                  exact ⟨ret_bool HE.out.symm, B3.out⟩
                · have B3 := Lib.hid (Below.trans hB.out.drew (Below.mono H3.out (show B ≤ wr.drew.heap.size from Nat.le_of_lt hZ.out)))
                  have M3 := Lib.hid (MAt.below (show MAt wr.drew B m from hM.out) H3.out hZ.out)
                  have Z3 := Lib.hid (Nat.lt_of_lt_of_le hZ.out H3.out.size)
                  clear H3 c0 c1 c2 c3 c4 c5
                  go_wp2
                  go_ret
                  exact ⟨ret_bool HE.out.symm, B3.out⟩
            · have hS2 := Lib.hid (show ∀ a, a < k + 1 → rowB m a = true ∧ ∀ c, c < a → symB m a c = true from fun a ha => by
                by_cases hak : a = k
                · subst hak; exact ⟨HR.out, fun c hc => hJ.out c (by omega)⟩
                · exact hS.out a (by omega))
              go_wp2
              go_roundw
              case rel => exact ⟨k + 1, by omega, by go_num, hS2, hB, hM, hZ⟩
              case measure => simp [intOf]; omega
      · have hne : (x / 64 != 0) = true := by simp [h1]
        have HE := Lib.hid (hr (by rw [hrow, show (x / 64 == 0) = false by simp [h1]]; rfl))
        clear hr hrow HSy
        go_wp2_with fail
        refine (HPk.out _).mono ?_
        rintro e w2 ⟨rfl, hB2⟩
        have B2 := Lib.hid (hB.out.trans (hB2.mono (Nat.le_of_lt hZ.out)))
        clear hB2 c0 c1 c2 c3 c4 c5
        go_wp2
        go_ret
        exact ⟨ret_bool HE.out.symm, B2.out⟩
    · have HE := Lib.hid (JY.out fun a ha => hS.out a (by omega))
      go_wp2
      go_ret
      exact ⟨ret_bool HE.out.symm, hB.out⟩
end Go.Proofs.YtaanjjmochfhgaaDoor
