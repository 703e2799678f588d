/-
  No statement is proved here: holes in the program; conditions as stated.
-/
import Derived.Test.YtcdjjijagibhlaaDoorHo
import Derived.Deep.RegionHeld3
import Derived.StillTailTactics
namespace Go.Proofs.YtcdjjijagibhlaaDoor
open Go.ChangeShapes Go.WideShapes Go.ChangeAt Go.RowKit

abbrev hv (h : Nat → Int) : Value := .agg #[.int .u8 (h 0), .int .u8 (h 1), .int .u8 (h 2), .int .u8 (h 3), .int .u8 (h 4), .int .u8 (h 5), .int .u8 (h 6), .int .u8 (h 7)]
/-- Holes in a block. -/
def HAt (w : World) (b : Nat) (h : Nat → Int) : Prop := ∀ j, j < 8 → w.cell? ⟨b, j, none⟩ = some (.int .u8 (h j))
theorem HAt.below {w w' : World} {b : Nat} {h : Nat → Int} (H : HAt w b h) (hB : Below w.heap.size w w') : HAt w' b h := fun j hj => kept hB (World.block_lt_of_cell? w _ (H j hj)) (H j hj)
theorem hat_made (w : World) (T : TypeId) (h : Nat → Int) : HAt (w.alloc (.cells #[.int .u8 (h 0), .int .u8 (h 1), .int .u8 (h 2), .int .u8 (h 3), .int .u8 (h 4), .int .u8 (h 5), .int .u8 (h 6), .int .u8 (h 7)] T)) w.heap.size h := fun j hj => by
  have : j = 0 ∨ j = 1 ∨ j = 2 ∨ j = 3 ∨ j = 4 ∨ j = 5 ∨ j = 6 ∨ j = 7 := by omega
  rcases this with rfl | rfl | rfl | rfl | rfl | rfl | rfl | rfl <;> simp [go_sem]
set_option maxHeartbeats 2000000 in
theorem has_any (h : Nat → Int) (x y : Int) (w : World) (h8 : Bytes8 h) (hx : -9223372036854775808 ≤ x ∧ x ≤ 9223372036854775807) (hy : -9223372036854775808 ≤ y ∧ y ≤ 9223372036854775807) :
    Calls Tryd.prog 38 #[hv h, .int .i64 x, .int .i64 y] w fun e w' => e = .returned (.bool (hasH h x y)) ∧ Below w.heap.size w w' := by
  by_cases h1 : 0 ≤ x
  · by_cases h2 : x < 8
    · by_cases h3 : 0 ≤ y
      · by_cases h4 : y < 8
        · obtain ⟨m, rfl⟩ : ∃ m : Nat, x = (m : Int) := ⟨x.toNat, by omega⟩
          obtain ⟨k, rfl⟩ : ∃ k : Nat, y = (k : Int) := ⟨y.toNat, by omega⟩
          rw [hasH_in (by omega) (by omega)]
          have c0 := hat_made w 23 h k (by omega)
          go_enter Tryd.func38, Tryd.ntmps38
          go_wp2
          go_ret
          exact ⟨ret_bool (and_bit (h8 k (by omega)) (by omega)), by go_grown⟩
        · rw [hasH_out (by omega)]
          go_enter Tryd.func38, Tryd.ntmps38
          go_wp2
          go_ret
          exact ⟨rfl, by go_grown⟩
      · rw [hasH_out (by omega)]
        go_enter Tryd.func38, Tryd.ntmps38
        go_wp2
        go_ret
        exact ⟨rfl, by go_grown⟩
    · rw [hasH_out (by omega)]
      go_enter Tryd.func38, Tryd.ntmps38
      go_wp2
      go_ret
      exact ⟨rfl, by go_grown⟩
  · rw [hasH_out (by omega)]
    go_enter Tryd.func38, Tryd.ntmps38
    go_wp2
    go_ret
    exact ⟨rfl, by go_grown⟩

/-- What is gone through. -/
abbrev sidesV : Value := .agg #[.int .i64 0, .int .i64 (-1), .int .i64 (-1), .int .i64 0, .int .i64 1, .int .i64 0, .int .i64 0, .int .i64 1]
theorem side0 (w : World) : (Instr.index 82 sidesV (.int .i64 0)).run Tryd.prog w = .ok (.agg #[.int .i64 0, .int .i64 (-1)]) w := by kernel_rfl
theorem side1 (w : World) : (Instr.index 82 sidesV (.int .i64 1)).run Tryd.prog w = .ok (.agg #[.int .i64 (-1), .int .i64 0]) w := by kernel_rfl
theorem side2 (w : World) : (Instr.index 82 sidesV (.int .i64 2)).run Tryd.prog w = .ok (.agg #[.int .i64 1, .int .i64 0]) w := by kernel_rfl
theorem side3 (w : World) : (Instr.index 82 sidesV (.int .i64 3)).run Tryd.prog w = .ok (.agg #[.int .i64 0, .int .i64 1]) w := by kernel_rfl

/-- A round's head. -/
def BR (h : Nat → Int) (x y : Int) (c i : Value) : Prop :=
  (i = .int .i64 0 ∧ c = .int .i64 0) ∨ (i = .int .i64 1 ∧ c = .int .i64 (cntTo h x y 1)) ∨ (i = .int .i64 2 ∧ c = .int .i64 (cntTo h x y 2)) ∨ (i = .int .i64 3 ∧ c = .int .i64 (cntTo h x y 3)) ∨ (i = .int .i64 4 ∧ c = .int .i64 (cntTo h x y 4))

set_option maxRecDepth 100000 in
set_option maxHeartbeats 4000000 in
theorem beside_any (h : Nat → Int) (x y : Int) (w : World) (h8 : Bytes8 h) (hx : 0 ≤ x ∧ x ≤ 7) (hy : 0 ≤ y ∧ y ≤ 7) :
    Calls Tryd.prog 44 #[.int .i64 x, .int .i64 y, .func (Fn.func 38) #[hv h] #[]] w fun e w' => e = .returned (.int .i64 (cnt4 h x y)) ∧ Below w.heap.size w w' := by
  obtain ⟨x1, x2⟩ := hx
  obtain ⟨y1, y2⟩ := hy
  have H0 := Lib.hid fun wx => has_any h x (y + -1) wx h8 (by omega) (by omega)
  have H1 := Lib.hid fun wx => has_any h (x + -1) y wx h8 (by omega) (by omega)
  have H2 := Lib.hid fun wx => has_any h (x + 1) y wx h8 (by omega) (by omega)
  have H3 := Lib.hid fun wx => has_any h x (y + 1) wx h8 (by omega) (by omega)
  have HC := Lib.hid fun k => cntTo_bd h x y k
  have C4 := Lib.hid (show cntTo h x y 4 = cnt4 h x y from rfl)
  have i0 := side0
  have i1 := side1
  have i2 := side2
  have i3 := side3
  go_enter Tryd.func44, Tryd.ntmps44
  go_wp2_with fail
  go_loopw [7, 15] (fun c i wr => BR h x y c i ∧ Hid (Below w.heap.size w wr)) (fun _ i _ => 4 - (intOf i).toNat)
  case atStart => exact ⟨.inl ⟨rfl, rfl⟩, Below.refl _ _⟩
  case round =>
    obtain ⟨hr, hB⟩ := hrel
    rcases hr with ⟨rfl, rfl⟩ | ⟨rfl, rfl⟩ | ⟨rfl, rfl⟩ | ⟨rfl, rfl⟩ | ⟨rfl, rfl⟩
    · have E := Lib.hid (cntTo_s0 h x y)
      have bd := HC.out 0
      generalize hasH h x (y + -1) = r at *
      cases r with
      | true =>
        go_wp2_with fail
        refine (H0.out _).mono ?_
        rintro e w2 ⟨rfl, hB2⟩
        have B2 := Lib.hid ((hB.out.alloc hB.out.size _).trans (hB2.mono (by have := hB.out.size; simp only [World.size_alloc]; omega)))
        clear hB2
        go_wp2_with fail
        go_roundw
        case rel => exact ⟨.inr (.inl ⟨rfl, by rw [E.out]; rfl⟩), B2⟩
        case measure => simp [intOf]
      | false =>
        go_wp2_with fail
        refine (H0.out _).mono ?_
        rintro e w2 ⟨rfl, hB2⟩
        have B2 := Lib.hid ((hB.out.alloc hB.out.size _).trans (hB2.mono (by have := hB.out.size; simp only [World.size_alloc]; omega)))
        clear hB2
        go_wp2_with fail
        go_roundw
        case rel => exact ⟨.inr (.inl ⟨rfl, by rw [E.out]; rfl⟩), B2⟩
        case measure => simp [intOf]
    · have E := Lib.hid (cntTo_s1 h x y)
      have bd := HC.out 1
      generalize hasH h (x + -1) y = r at *
      generalize cntTo h x y 1 = ck at *
      cases r with
      | true =>
        go_wp2_with fail
        refine (H1.out _).mono ?_
        rintro e w2 ⟨rfl, hB2⟩
        have B2 := Lib.hid ((hB.out.alloc hB.out.size _).trans (hB2.mono (by have := hB.out.size; simp only [World.size_alloc]; omega)))
        clear hB2
        go_wp2_with fail
        go_roundw
        case rel => exact ⟨.inr (.inr (.inl ⟨rfl, by rw [E.out]; rfl⟩)), B2⟩
        case measure => simp [intOf]
      | false =>
        go_wp2_with fail
        refine (H1.out _).mono ?_
        rintro e w2 ⟨rfl, hB2⟩
        have B2 := Lib.hid ((hB.out.alloc hB.out.size _).trans (hB2.mono (by have := hB.out.size; simp only [World.size_alloc]; omega)))
        clear hB2
        go_wp2_with fail
        go_roundw
        case rel => exact ⟨.inr (.inr (.inl ⟨rfl, by rw [E.out]; rw [b2i_f, Int.add_zero]⟩)), B2⟩
        case measure => simp [intOf]
    · have E := Lib.hid (cntTo_s2 h x y)
      have bd := HC.out 2
      generalize hasH h (x + 1) y = r at *
      generalize cntTo h x y 2 = ck at *
      cases r with
      | true =>
        go_wp2_with fail
        refine (H2.out _).mono ?_
        rintro e w2 ⟨rfl, hB2⟩
        have B2 := Lib.hid ((hB.out.alloc hB.out.size _).trans (hB2.mono (by have := hB.out.size; simp only [World.size_alloc]; omega)))
        clear hB2
        go_wp2_with fail
        go_roundw
        case rel => exact ⟨.inr (.inr (.inr (.inl ⟨rfl, by rw [E.out]; rfl⟩))), B2⟩
        case measure => simp [intOf]
      | false =>
        go_wp2_with fail
        refine (H2.out _).mono ?_
        rintro e w2 ⟨rfl, hB2⟩
        have B2 := Lib.hid ((hB.out.alloc hB.out.size _).trans (hB2.mono (by have := hB.out.size; simp only [World.size_alloc]; omega)))
        clear hB2
        go_wp2_with fail
        go_roundw
        case rel => exact ⟨.inr (.inr (.inr (.inl ⟨rfl, by rw [E.out]; rw [b2i_f, Int.add_zero]⟩))), B2⟩
        case measure => simp [intOf]
    · have E := Lib.hid (cntTo_s3 h x y)
      have bd := HC.out 3
      generalize hasH h x (y + 1) = r at *
      generalize cntTo h x y 3 = ck at *
      cases r with
      | true =>
        go_wp2_with fail
        refine (H3.out _).mono ?_
        rintro e w2 ⟨rfl, hB2⟩
        have B2 := Lib.hid ((hB.out.alloc hB.out.size _).trans (hB2.mono (by have := hB.out.size; simp only [World.size_alloc]; omega)))
        clear hB2
        go_wp2_with fail
        go_roundw
        case rel => exact ⟨.inr (.inr (.inr (.inr (⟨rfl, by rw [E.out]; rfl⟩)))), B2⟩
        case measure => simp [intOf]
      | false =>
        go_wp2_with fail
        refine (H3.out _).mono ?_
        rintro e w2 ⟨rfl, hB2⟩
        have B2 := Lib.hid ((hB.out.alloc hB.out.size _).trans (hB2.mono (by have := hB.out.size; simp only [World.size_alloc]; omega)))
        clear hB2
        go_wp2_with fail
        go_roundw
        case rel => exact ⟨.inr (.inr (.inr (.inr (⟨rfl, by rw [E.out]; rw [b2i_f, Int.add_zero]⟩)))), B2⟩
        case measure => simp [intOf]
    · go_wp2_with fail
      go_ret
      exact ⟨ret_int C4.out, hB.out⟩
end Go.Proofs.YtcdjjijagibhlaaDoor
