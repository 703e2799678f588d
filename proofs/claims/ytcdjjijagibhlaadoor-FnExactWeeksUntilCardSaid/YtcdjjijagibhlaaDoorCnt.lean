/-
  No statement is proved here: how many holes there are, in the document's own text and in the program; condition: eight bytes.
-/
import Derived.Test.YtcdjjijagibhlaaDoorHoS
import Derived.Lib.BitFns
namespace Go.Proofs.YtcdjjijagibhlaaDoor
open Go.ChangeShapes Go.WideShapes Go.ChangeAt Go.RowKit

/-- Of the first k bits so many are set; in the first y rows. -/
def rowTo (f : Nat → Bool) : Nat → Int
  | 0 => 0
  | k + 1 => rowTo f k + b2i (f k)
def cntY (h : Nat → Int) : Nat → Int
  | 0 => 0
  | y + 1 => cntY h y + rowTo (bitH (h y)) 8
def cntF (h : Nat → Int) : Int := cntY h 8
theorem rowTo_bd (f : Nat → Bool) : ∀ k, 0 ≤ rowTo f k ∧ rowTo f k ≤ k
  | 0 => by simp [rowTo]
  | k + 1 => by
    have := rowTo_bd f k
    have := b2i_bd (f k)
    rw [rowTo]
    omega
theorem cntY_bd (h : Nat → Int) : ∀ y, 0 ≤ cntY h y ∧ cntY h y ≤ 8 * y
  | 0 => by simp [cntY]
  | y + 1 => by
    have := cntY_bd h y
    have := rowTo_bd (bitH (h y)) 8
    rw [cntY]
    omega
theorem ones_all : ∀ a : Fin 256, (Lib.onesCount a.val : Int) = rowTo (fun i => a.val.testBit i) 8 := by decide +kernel
theorem ones_row {n : Int} (h : 0 ≤ n ∧ n ≤ 255) : (Lib.onesCount n.toNat : Int) = rowTo (bitH n) 8 := ones_all ⟨n.toNat, by omega⟩
set_option maxRecDepth 100000 in
theorem ones_any (x : Int) (w : World) (h0 : 0 ≤ x) (h1 : x ≤ 255) :
    Calls Tryd.prog 45 #[.int .u8 x] w fun e w' => e = .returned (.int .i64 (rowTo (bitH x) 8)) ∧ w = w' := by
  rw [← ones_row ⟨h0, h1⟩, ← Lib.pop8_int x h0 h1]
  go_enter Tryd.func45, Tryd.ntmps45
  go_wp2
  go_ret
  exact ⟨ret_int (by kernel_rfl), rfl⟩
theorem hidx0 (h : Nat → Int) (w : World) : (Instr.index 23 (.agg #[.int .u8 (h 0), .int .u8 (h 1), .int .u8 (h 2), .int .u8 (h 3), .int .u8 (h 4), .int .u8 (h 5), .int .u8 (h 6), .int .u8 (h 7)]) (.int .i64 0)).run Tryd.prog w = .ok (.int .u8 (h 0)) w := by kernel_rfl
theorem hidx1 (h : Nat → Int) (w : World) : (Instr.index 23 (.agg #[.int .u8 (h 0), .int .u8 (h 1), .int .u8 (h 2), .int .u8 (h 3), .int .u8 (h 4), .int .u8 (h 5), .int .u8 (h 6), .int .u8 (h 7)]) (.int .i64 1)).run Tryd.prog w = .ok (.int .u8 (h 1)) w := by kernel_rfl
theorem hidx2 (h : Nat → Int) (w : World) : (Instr.index 23 (.agg #[.int .u8 (h 0), .int .u8 (h 1), .int .u8 (h 2), .int .u8 (h 3), .int .u8 (h 4), .int .u8 (h 5), .int .u8 (h 6), .int .u8 (h 7)]) (.int .i64 2)).run Tryd.prog w = .ok (.int .u8 (h 2)) w := by kernel_rfl
theorem hidx3 (h : Nat → Int) (w : World) : (Instr.index 23 (.agg #[.int .u8 (h 0), .int .u8 (h 1), .int .u8 (h 2), .int .u8 (h 3), .int .u8 (h 4), .int .u8 (h 5), .int .u8 (h 6), .int .u8 (h 7)]) (.int .i64 3)).run Tryd.prog w = .ok (.int .u8 (h 3)) w := by kernel_rfl
theorem hidx4 (h : Nat → Int) (w : World) : (Instr.index 23 (.agg #[.int .u8 (h 0), .int .u8 (h 1), .int .u8 (h 2), .int .u8 (h 3), .int .u8 (h 4), .int .u8 (h 5), .int .u8 (h 6), .int .u8 (h 7)]) (.int .i64 4)).run Tryd.prog w = .ok (.int .u8 (h 4)) w := by kernel_rfl
theorem hidx5 (h : Nat → Int) (w : World) : (Instr.index 23 (.agg #[.int .u8 (h 0), .int .u8 (h 1), .int .u8 (h 2), .int .u8 (h 3), .int .u8 (h 4), .int .u8 (h 5), .int .u8 (h 6), .int .u8 (h 7)]) (.int .i64 5)).run Tryd.prog w = .ok (.int .u8 (h 5)) w := by kernel_rfl
theorem hidx6 (h : Nat → Int) (w : World) : (Instr.index 23 (.agg #[.int .u8 (h 0), .int .u8 (h 1), .int .u8 (h 2), .int .u8 (h 3), .int .u8 (h 4), .int .u8 (h 5), .int .u8 (h 6), .int .u8 (h 7)]) (.int .i64 6)).run Tryd.prog w = .ok (.int .u8 (h 6)) w := by kernel_rfl
theorem hidx7 (h : Nat → Int) (w : World) : (Instr.index 23 (.agg #[.int .u8 (h 0), .int .u8 (h 1), .int .u8 (h 2), .int .u8 (h 3), .int .u8 (h 4), .int .u8 (h 5), .int .u8 (h 6), .int .u8 (h 7)]) (.int .i64 7)).run Tryd.prog w = .ok (.int .u8 (h 7)) w := by kernel_rfl

set_option maxRecDepth 100000 in
set_option maxHeartbeats 4000000 in
theorem implCount_any (h : Nat → Int) (w : World) (h8 : Bytes8 h) :
    Calls Tryd.prog 33 #[hv h] w fun e w' => e = .returned (.int .i64 (cntF h)) ∧ Below w.heap.size w w' := by
  have H0 := Lib.hid fun wx => ones_any (h 0) wx (h8 0 (by omega)).1 (h8 0 (by omega)).2
  have b0 := rowTo_bd (bitH (h 0)) 8
  have i0 := hidx0 h
  have H1 := Lib.hid fun wx => ones_any (h 1) wx (h8 1 (by omega)).1 (h8 1 (by omega)).2
  have b1 := rowTo_bd (bitH (h 1)) 8
  have i1 := hidx1 h
  have H2 := Lib.hid fun wx => ones_any (h 2) wx (h8 2 (by omega)).1 (h8 2 (by omega)).2
  have b2 := rowTo_bd (bitH (h 2)) 8
  have i2 := hidx2 h
  have H3 := Lib.hid fun wx => ones_any (h 3) wx (h8 3 (by omega)).1 (h8 3 (by omega)).2
  have b3 := rowTo_bd (bitH (h 3)) 8
  have i3 := hidx3 h
  have H4 := Lib.hid fun wx => ones_any (h 4) wx (h8 4 (by omega)).1 (h8 4 (by omega)).2
  have b4 := rowTo_bd (bitH (h 4)) 8
  have i4 := hidx4 h
  have H5 := Lib.hid fun wx => ones_any (h 5) wx (h8 5 (by omega)).1 (h8 5 (by omega)).2
  have b5 := rowTo_bd (bitH (h 5)) 8
  have i5 := hidx5 h
  have H6 := Lib.hid fun wx => ones_any (h 6) wx (h8 6 (by omega)).1 (h8 6 (by omega)).2
  have b6 := rowTo_bd (bitH (h 6)) 8
  have i6 := hidx6 h
  have H7 := Lib.hid fun wx => ones_any (h 7) wx (h8 7 (by omega)).1 (h8 7 (by omega)).2
  have b7 := rowTo_bd (bitH (h 7)) 8
  have i7 := hidx7 h
  have R := Lib.hid (show cntF h = 0 + rowTo (bitH (h 0)) 8 + rowTo (bitH (h 1)) 8 + rowTo (bitH (h 2)) 8 + rowTo (bitH (h 3)) 8 + rowTo (bitH (h 4)) 8 + rowTo (bitH (h 5)) 8 + rowTo (bitH (h 6)) 8 + rowTo (bitH (h 7)) 8 from rfl)
  generalize rowTo (bitH (h 0)) 8 = o0 at *
  generalize rowTo (bitH (h 1)) 8 = o1 at *
  generalize rowTo (bitH (h 2)) 8 = o2 at *
  generalize rowTo (bitH (h 3)) 8 = o3 at *
  generalize rowTo (bitH (h 4)) 8 = o4 at *
  generalize rowTo (bitH (h 5)) 8 = o5 at *
  generalize rowTo (bitH (h 6)) 8 = o6 at *
  generalize rowTo (bitH (h 7)) 8 = o7 at *
  unfold hv
  clear h8
  go_enter Tryd.func33, Tryd.ntmps33
  go_wp2_with fail
  refine wp_loop_rounds 9 ?_
  rw [rounds_succ]
  go_wp2_with fail
  refine (H0.out _).mono ?_
  rintro e w' ⟨rfl, rfl⟩
  go_wp2_with fail
  rw [rounds_succ]
  go_wp2_with fail
  refine (H1.out _).mono ?_
  rintro e w' ⟨rfl, rfl⟩
  go_wp2_with fail
  rw [rounds_succ]
  go_wp2_with fail
  refine (H2.out _).mono ?_
  rintro e w' ⟨rfl, rfl⟩
  go_wp2_with fail
  rw [rounds_succ]
  go_wp2_with fail
  refine (H3.out _).mono ?_
  rintro e w' ⟨rfl, rfl⟩
  go_wp2_with fail
  rw [rounds_succ]
  go_wp2_with fail
  refine (H4.out _).mono ?_
  rintro e w' ⟨rfl, rfl⟩
  go_wp2_with fail
  rw [rounds_succ]
  go_wp2_with fail
  refine (H5.out _).mono ?_
  rintro e w' ⟨rfl, rfl⟩
  go_wp2_with fail
  rw [rounds_succ]
  go_wp2_with fail
  refine (H6.out _).mono ?_
  rintro e w' ⟨rfl, rfl⟩
  go_wp2_with fail
  rw [rounds_succ]
  go_wp2_with fail
  refine (H7.out _).mono ?_
  rintro e w' ⟨rfl, rfl⟩
  go_wp2_with fail
  rw [rounds_succ]
  go_wp2
  go_ret
  exact ⟨ret_int (by rw [R.out]; omega), by go_grown⟩

set_option maxRecDepth 100000 in
set_option maxHeartbeats 4000000 in
theorem l06Count_any (A : Nat) (h : Nat → Int) (w : World) (h8 : Bytes8 h) (H : HAt w A h) :
    Calls Tryd.prog 32 #[.pointer (some ⟨A, 0, none⟩)] w fun e w' => e = .returned (.int .i64 (cntF h)) ∧ w = w' := by
  have HH := Lib.hid fun (x y : Nat) (hx : x < 8) (hy : y < 8) => (hasH_in (h := h) hx hy) ▸ l06Hole_any A h x y w h8 (by omega) (by omega) H
  have BY := Lib.hid fun y => cntY_bd h y
  have BX := Lib.hid fun y x => rowTo_bd (bitH (h y)) x
  have SX := Lib.hid fun (y x : Nat) => (show rowTo (bitH (h y)) (x + 1) = rowTo (bitH (h y)) x + b2i (bitH (h y) x) from rfl)
  have SY := Lib.hid fun (y : Nat) => (show cntY h (y + 1) = cntY h y + rowTo (bitH (h y)) 8 from rfl)
  have R := Lib.hid (show cntY h 8 = cntF h from rfl)
  clear h8 H
  go_enter Tryd.func32, Tryd.ntmps32
  go_wp2_with fail
  go_loop [3, 4] (fun c i => ∃ y : Nat, y ≤ 8 ∧ i = .int .i64 y ∧ c = .int .i64 (cntY h y)) (fun _ i => 8 - (intOf i).toNat)
  case atStart => exact ⟨0, by omega, rfl, rfl⟩
  case round =>
    obtain ⟨y, hy, rfl, rfl⟩ := hrel
    by_cases hlt : y < 8
    · have hd : decide ((y : Int) < 8) = true := decide_eq_true (by omega)
      have by1 := BY.out y
      have S0 := Lib.hid (show cntY h y = cntY h y + rowTo (bitH (h y)) 0 by simp [rowTo])
      have SE := Lib.hid (SY.out y)
      go_wp2_with fail
      go_loop [3, 5] (fun c i => ∃ x : Nat, x ≤ 8 ∧ i = .int .i64 x ∧ c = .int .i64 (cntY h y + rowTo (bitH (h y)) x)) (fun _ i => 8 - (intOf i).toNat)
      case atStart => exact ⟨0, by omega, rfl, by rw [← S0.out]⟩
      case round =>
        obtain ⟨x, hx, rfl, rfl⟩ := hrel
        by_cases hxl : x < 8
        · have hdx : decide ((x : Int) < 8) = true := decide_eq_true (by omega)
          have bx := BX.out y x
          have HC := Lib.hid (HH.out x y hxl hlt)
          have E := Lib.hid (SX.out y x)
          generalize bitH (h y) x = r at *
          cases r with
          | true =>
            go_wp2_with fail
            refine HC.out.mono ?_
            rintro e w' ⟨rfl, rfl⟩
            go_wp2_with fail
            go_round
            case rel => exact ⟨x + 1, by omega, by go_num, by rw [E.out, b2i_t, Int.add_assoc]⟩
            case measure => simp [intOf]; omega
          | false =>
            go_wp2_with fail
            refine HC.out.mono ?_
            rintro e w' ⟨rfl, rfl⟩
            go_wp2_with fail
            go_round
            case rel => exact ⟨x + 1, by omega, by go_num, by rw [E.out, b2i_f, Int.add_zero]⟩
            case measure => simp [intOf]; omega
        · have hx8 : x = 8 := by omega
          subst hx8
          go_wp2_with fail
          go_round
          case rel => exact ⟨y + 1, by omega, by go_num, by rw [SE.out]⟩
          case measure => simp [intOf]; omega
    · have hy8 : y = 8 := by omega
      subst hy8
      go_wp2_with fail
      go_ret
      exact ⟨ret_int R.out, rfl⟩
end Go.Proofs.YtcdjjijagibhlaaDoor
