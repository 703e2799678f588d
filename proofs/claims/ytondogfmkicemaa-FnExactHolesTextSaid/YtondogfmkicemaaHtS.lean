/-
  No statement is proved here: HolesText as the document's own text tells it; condition: bytes.
-/
import Derived.Test.YtondogfmkicemaaHoS
import Derived.Test.YtondogfmkicemaaTextG
namespace Go.Proofs.Ytondogfmkicemaa
open Go.ChangeShapes Go.WideShapes Go.ChangeAt Go.RowKit

/-- The letter of a place; the text up to a place of a row. -/
def chH (h : Nat → Int) (x y : Nat) : UInt8 := if hasH h x y = true then 111 else 46
def rowH (h : Nat → Int) (y : Nat) : Nat → List UInt8
  | 0 => []
  | x + 1 => rowH h y x ++ [chH h x y]
def txH (h : Nat → Int) : Nat → List UInt8
  | 0 => []
  | y + 1 => (txH h y ++ rowH h y 8) ++ [10]
def atH (h : Nat → Int) (y x : Nat) : List UInt8 := txH h y ++ rowH h y x
theorem atH_zero (h : Nat → Int) (y : Nat) : atH h y 0 = txH h y := List.append_nil _
theorem atH_hole {h : Nat → Int} {y x : Nat} (hh : hasH h x y = true) : atH h y (x + 1) = atH h y x ++ [111] := by
  unfold atH
  rw [rowH, ← List.append_assoc, chH, if_pos hh]
theorem atH_none {h : Nat → Int} {y x : Nat} (hh : hasH h x y = false) : atH h y (x + 1) = atH h y x ++ [46] := by
  unfold atH
  rw [rowH, ← List.append_assoc, chH, if_neg (by rw [hh]; simp)]
theorem atH_end (h : Nat → Int) (y : Nat) : txH h (y + 1) = atH h y 8 ++ [10] := rfl
theorem rowH_len (h : Nat → Int) (y : Nat) : ∀ x, (rowH h y x).length = x
  | 0 => rfl
  | x + 1 => by rw [rowH, List.length_append, rowH_len h y x]; rfl
theorem txH_len (h : Nat → Int) : ∀ y, (txH h y).length = 9 * y
  | 0 => rfl
  | y + 1 => by
    rw [txH, List.length_append, List.length_append, rowH_len, txH_len h y]
    simp
    omega
theorem atH_len (h : Nat → Int) (y x : Nat) : (atH h y x).length = 9 * y + x := by rw [atH, List.length_append, txH_len, rowH_len]

set_option maxRecDepth 100000 in
set_option maxHeartbeats 8000000 in
theorem specHText_any (h : Nat → Int) (w : World) (h8 : Bytes8 h) :
    Calls Try.prog 4 #[hv h] w fun e w' => e = .returned (.string ⟨(txH h 8).toArray⟩) ∧ Below w.heap.size w w' := by
  obtain ⟨W0, hW0⟩ : ∃ W0, W0 = w.alloc (.cells #[.int .u8 (h 0), .int .u8 (h 1), .int .u8 (h 2), .int .u8 (h 3), .int .u8 (h 4), .int .u8 (h 5), .int .u8 (h 6), .int .u8 (h 7)] 24) := ⟨_, rfl⟩
  have B0 : Hid (Below w.heap.size w W0) := Lib.hid (by rw [hW0]; go_grown)
  have A0 : HAt W0 w.heap.size h := by rw [hW0]; exact hat_made w 24 h
  have HH := Lib.hid fun x y (hx : 0 ≤ x ∧ x ≤ 8) (hy : 0 ≤ y ∧ y ≤ 8) => l06Hole_any w.heap.size h x y W0 h8 (by omega) (by omega) A0
  have HW0 := Lib.hid hW0
  have HLn := Lib.hid (atH_len h)
  have HTn := Lib.hid (txH_len h)
  have H1 := Lib.hid fun y x => atH_hole (h := h) (y := y) (x := x)
  have H2 := Lib.hid fun y x => atH_none (h := h) (y := y) (x := x)
  have H3 := Lib.hid (atH_end h)
  have H0 := Lib.hid (atH_zero h)
  have HST : Hid (Value.string ⟨#[]⟩ = .string ⟨(txH h 0).toArray⟩) := Lib.hid rfl
  clear hW0 A0 h8
  unfold hv at *
  go_enter Try.func4, Try.ntmps4
  go_wp2_with fail
  rw [← HW0.out]
  go_loop [3, 4] (fun s i => ∃ y : Nat, y ≤ 8 ∧ i = .int .i64 y ∧ s = .string ⟨(txH h y).toArray⟩) (fun _ i => 8 - (intOf i).toNat)
  case atStart => exact ⟨0, by omega, rfl, HST.out⟩
  case round =>
    obtain ⟨y, hy, rfl, rfl⟩ := hrel
    by_cases hlt : y < 8
    · have hyi : (y : Int) < 8 := by omega
      have hst : Hid (Value.string ⟨(txH h y).toArray⟩ = .string ⟨(atH h y 0).toArray⟩) := Lib.hid (by rw [H0.out])
      have hend : ∀ wx : World, (Op.stringOp .add ⟨(atH h y 8).toArray⟩ ⟨#[10]⟩).run Try.prog wx = .ok (.string ⟨(txH h (y + 1)).toArray⟩) wx := fun wx => by
        rw [H3.out]
        exact add_lists _ [10] (by rw [HLn.out]; omega) (by simp) wx
      have HE := Lib.hid hend
      clear hend
      go_wp2_with fail
      go_loop [3, 5] (fun s i => ∃ x : Nat, x ≤ 8 ∧ i = .int .i64 x ∧ s = .string ⟨(atH h y x).toArray⟩) (fun _ i => 8 - (intOf i).toNat)
      case atStart => exact ⟨0, by omega, rfl, hst.out⟩
      case round =>
        obtain ⟨x, hx, rfl, rfl⟩ := hrel
        by_cases hlx : x < 8
        · have hxi : (x : Int) < 8 := by omega
          have hcall := Lib.hid (HH.out x y (by omega) (by omega))
          cases hh : hasH h x y with
          | true =>
            rw [hh] at hcall
            have hadd : ∀ wx : World, (Op.stringOp .add ⟨(atH h y x).toArray⟩ ⟨#[111]⟩).run Try.prog wx = .ok (.string ⟨(atH h y (x + 1)).toArray⟩) wx := fun wx => by
              rw [H1.out y x hh]
              exact add_lists _ [111] (by rw [HLn.out]; omega) (by simp) wx
            clear hh
            obtain ⟨X, hX⟩ : ∃ X, X = atH h y x := ⟨_, rfl⟩
            obtain ⟨Y, hY⟩ : ∃ Y, Y = atH h y (x + 1) := ⟨_, rfl⟩
            rw [← hX, ← hY] at hadd
            rw [← hX]
            have HY := Lib.hid hY
            clear hX hY
            go_wp2_with fail
            refine hcall.out.mono ?_
            rintro e w1 ⟨rfl, rfl⟩
            go_wp2_with fail
            go_round
            case rel => exact ⟨x + 1, by omega, by go_num, by rw [HY.out]⟩
            case measure => simp [intOf]; omega
          | false =>
            rw [hh] at hcall
            have hadd : ∀ wx : World, (Op.stringOp .add ⟨(atH h y x).toArray⟩ ⟨#[46]⟩).run Try.prog wx = .ok (.string ⟨(atH h y (x + 1)).toArray⟩) wx := fun wx => by
              rw [H2.out y x hh]
              exact add_lists _ [46] (by rw [HLn.out]; omega) (by simp) wx
            clear hh
            obtain ⟨X, hX⟩ : ∃ X, X = atH h y x := ⟨_, rfl⟩
            obtain ⟨Y, hY⟩ : ∃ Y, Y = atH h y (x + 1) := ⟨_, rfl⟩
            rw [← hX, ← hY] at hadd
            rw [← hX]
            have HY := Lib.hid hY
            clear hX hY
            go_wp2_with fail
            refine hcall.out.mono ?_
            rintro e w1 ⟨rfl, rfl⟩
            go_wp2_with fail
            go_round
            case rel => exact ⟨x + 1, by omega, by go_num, by rw [HY.out]⟩
            case measure => simp [intOf]; omega
        · obtain rfl : x = 8 := by omega
          have hend := HE.out
          obtain ⟨X, hX⟩ : ∃ X, X = atH h y 8 := ⟨_, rfl⟩
          obtain ⟨Y, hY⟩ : ∃ Y, Y = txH h (y + 1) := ⟨_, rfl⟩
          rw [← hX, ← hY] at hend
          rw [← hX]
          have HY := Lib.hid hY
          clear hX hY
          go_wp2_with fail
          go_round
          case rel => exact ⟨y + 1, by omega, by go_num, by rw [HY.out]⟩
          case measure => simp [intOf]; omega
    · obtain rfl : y = 8 := by omega
      go_wp2_with fail
      go_ret
      exact ⟨rfl, B0.out⟩
end Go.Proofs.Ytondogfmkicemaa
