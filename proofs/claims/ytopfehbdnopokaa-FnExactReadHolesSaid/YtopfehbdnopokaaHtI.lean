/-
  No statement is proved here: HolesText in the program; condition: bytes.
-/
import Derived.Test.YtopfehbdnopokaaHtD
import Derived.Test.YtopfehbdnopokaaBld
import Derived.Test.YtopfehbdnopokaaShelfB
namespace Go.Proofs.Ytopfehbdnopokaa
open Go.ChangeShapes Go.WideShapes Go.ChangeAt Go.RowKit

theorem byteCells_add (l : List UInt8) (c : UInt8) : Lib.byteCells l ++ [.int .u8 c.toNat] = Lib.byteCells (l ++ [c]) := by simp [Lib.byteCells]
theorem byteCells_len (l : List UInt8) : (Lib.byteCells l).length = l.length := by simp [Lib.byteCells]

set_option maxRecDepth 100000 in
set_option maxHeartbeats 8000000 in
theorem implHText_any (h : Nat → Int) (w : World) (h8 : Bytes8 h) :
    Calls Try.prog 17 #[hv h] w fun e w' => e = .returned (.string ⟨(txH h 8).toArray⟩) ∧ Below w.heap.size w w' := by
  obtain ⟨W0, hW0⟩ : ∃ W0, W0 = (w.alloc (.cells #[.int .u8 (h 0), .int .u8 (h 1), .int .u8 (h 2), .int .u8 (h 3), .int .u8 (h 4), .int .u8 (h 5), .int .u8 (h 6), .int .u8 (h 7)] 23)).alloc (.cells #[.pointer none, .slice none 0 0] 49) := ⟨_, rfl⟩
  have B0 : Hid (Below w.heap.size w W0) := Lib.hid (by rw [hW0]; go_grown)
  have A0 : Hid (HAt W0 w.heap.size h) := Lib.hid (by rw [hW0]; exact (hat_made w 23 h).below ((Below.refl _ _).alloc (Nat.le_refl _) _))
  have S0 : Hid (Bld (w.heap.size + 1) (w.heap.size + 1) (Lib.byteCells (txH h 0)) W0) := Lib.hid (by
    rw [hW0]
    have := Lib.fresh_isBuilder 49 5 (w.alloc (.cells #[.int .u8 (h 0), .int .u8 (h 1), .int .u8 (h 2), .int .u8 (h 3), .int .u8 (h 4), .int .u8 (h 5), .int .u8 (h 6), .int .u8 (h 7)] 23))
    rw [World.size_alloc] at this
    exact this)
  have HZ0 : Hid (w.heap.size + 1 < W0.heap.size) := Lib.hid (by rw [hW0]; simp)
  have HH := Lib.hid fun x y (hx : 0 ≤ x ∧ x ≤ 8) (hy : 0 ≤ y ∧ y ≤ 8) wx => has_any h x y wx h8 (by omega) (by omega)
  have HW0 := Lib.hid hW0
  have HLn := Lib.hid (atH_len h)
  have H1 := Lib.hid fun y x => atH_hole (h := h) (y := y) (x := x)
  have H2 := Lib.hid fun y x => atH_none (h := h) (y := y) (x := x)
  have H3 := Lib.hid (atH_end h)
  have H0 := Lib.hid (atH_zero h)
  clear hW0 h8
  unfold hv at *
  go_enter Try.func17, Try.ntmps17
  go_wp2_with fail
  rw [← HW0.out]
  go_loopw [6] (fun i wr => ∃ y : Nat, y ≤ 8 ∧ i = .int .i64 y ∧ Hid (HAt wr w.heap.size h) ∧ Hid (Bld (w.heap.size + 1) (w.heap.size + 1) (Lib.byteCells (txH h y)) wr) ∧ Hid (Below w.heap.size w wr)) (fun i _ => 8 - (intOf i).toNat)
  case atStart => exact ⟨0, by omega, rfl, A0, S0, B0⟩
  case round =>
    clear A0 S0 B0
    obtain ⟨y, hy, rfl, hA, hS, hB⟩ := hrel
    by_cases hlt : y < 8
    · have hyi : (y : Int) < 8 := by omega
      have hS0 : Hid (Bld (w.heap.size + 1) (w.heap.size + 1) (Lib.byteCells (atH h y 0)) wr) := Lib.hid (by rw [H0.out]; exact hS.out)
      go_wp2_with fail
      go_loopw [9] (fun i wr => ∃ x : Nat, x ≤ 8 ∧ i = .int .i64 x ∧ Hid (HAt wr w.heap.size h) ∧ Hid (Bld (w.heap.size + 1) (w.heap.size + 1) (Lib.byteCells (atH h y x)) wr) ∧ Hid (Below w.heap.size w wr)) (fun i _ => 8 - (intOf i).toNat)
      case atStart => exact ⟨0, by omega, rfl, hA, hS0, hB⟩
      case round =>
        clear hA hS hS0 hB
        obtain ⟨x, hx, rfl, hA, hS, hB⟩ := hrel
        by_cases hlx : x < 8
        · have hxi : (x : Int) < 8 := by omega
          have hcall := Lib.hid (fun wx => HH.out x y (by omega) (by omega) wx)
          obtain ⟨a0, a1, a2, a3, a4, a5, a6, a7⟩ : _ ∧ _ ∧ _ ∧ _ ∧ _ ∧ _ ∧ _ ∧ _ := ⟨hA.out 0 (by omega), hA.out 1 (by omega), hA.out 2 (by omega), hA.out 3 (by omega), hA.out 4 (by omega), hA.out 5 (by omega), hA.out 6 (by omega), hA.out 7 (by omega)⟩
          have HK := Lib.hid (H1.out y x)
          have HK2 := Lib.hid (H2.out y x)
          have hln := HLn.out y x
          generalize hasH h x y = r at *
          go_wp2_with fail
          refine (hcall.out _).mono ?_
          rintro e w1 ⟨rfl, hB1⟩
          have A1 := Lib.hid (hA.out.below hB1)
          have S1 := Lib.hid (hS.out.below hB1)
          have T1 := Lib.hid (hB.out.trans (hB1.mono hB.out.size))
          have hsz := S1.out.lt
          clear a0 a1 a2 a3 a4 a5 a6 a7 hA hS hB hB1
          cases r with
          | true =>
            have HC := Lib.hid (writeByte_any (w.heap.size + 1) (w.heap.size + 1) _ 111 w1 S1.out (by rw [byteCells_len]; omega) (by omega))
            have HE := Lib.hid (HK.out rfl)
            have HSZ := Lib.hid hsz
            clear hsz hln
            go_wp2_with fail
            refine HC.out.mono ?_
            rintro e w2 ⟨rfl, hb, hB2⟩
            have A2 := Lib.hid (show HAt w2 w.heap.size h from fun j hj => (hB2.cell (p := ⟨w.heap.size, j, none⟩) (by simp)).trans (A1.out j hj))
            have S2 : Hid (Bld (w.heap.size + 1) (w.heap.size + 1) (Lib.byteCells (atH h y (x + 1))) w2) := Lib.hid (by
              rw [HE.out, ← byteCells_add]
              exact hb)
            have T2 := Lib.hid (T1.out.trans (hB2.mono (by omega)))
            clear hb hB2 A1 S1 T1
            go_wp2_with fail
            go_roundw
            case rel => exact ⟨x + 1, by omega, by go_num, A2, S2, T2⟩
            case measure => simp [intOf]; omega
          | false =>
            have HC := Lib.hid (writeByte_any (w.heap.size + 1) (w.heap.size + 1) _ 46 w1 S1.out (by rw [byteCells_len]; omega) (by omega))
            have HE := Lib.hid (HK2.out rfl)
            have HSZ := Lib.hid hsz
            clear hsz hln
            go_wp2_with fail
            refine HC.out.mono ?_
            rintro e w2 ⟨rfl, hb, hB2⟩
            have A2 := Lib.hid (show HAt w2 w.heap.size h from fun j hj => (hB2.cell (p := ⟨w.heap.size, j, none⟩) (by simp)).trans (A1.out j hj))
            have S2 : Hid (Bld (w.heap.size + 1) (w.heap.size + 1) (Lib.byteCells (atH h y (x + 1))) w2) := Lib.hid (by
              rw [HE.out, ← byteCells_add]
              exact hb)
            have T2 := Lib.hid (T1.out.trans (hB2.mono (by omega)))
            clear hb hB2 A1 S1 T1
            go_wp2_with fail
            go_roundw
            case rel => exact ⟨x + 1, by omega, by go_num, A2, S2, T2⟩
            case measure => simp [intOf]; omega
        · obtain rfl : x = 8 := by omega
          have hsz := hS.out.lt
          have hln := HLn.out y 8
          have HC := Lib.hid (writeByte_any (w.heap.size + 1) (w.heap.size + 1) _ 10 wr hS.out (by rw [byteCells_len]; omega) (by omega))
          have HE := Lib.hid (H3.out y)
          clear hsz hln
          go_wp2_with fail
          refine HC.out.mono ?_
          rintro e w2 ⟨rfl, hb, hB2⟩
          have A2 := Lib.hid (show HAt w2 w.heap.size h from fun j hj => (hB2.cell (p := ⟨w.heap.size, j, none⟩) (by simp)).trans (hA.out j hj))
          have S2 : Hid (Bld (w.heap.size + 1) (w.heap.size + 1) (Lib.byteCells (txH h (y + 1))) w2) := Lib.hid (by
            rw [HE.out, ← byteCells_add]
            exact hb)
          have T2 := Lib.hid (hB.out.trans (hB2.mono (by omega)))
          clear hb hB2 hA hS hB
          go_wp2_with fail
          go_roundw
          case rel => exact ⟨y + 1, by omega, by go_num, A2, S2, T2⟩
          case measure => simp [intOf]; omega
    · obtain rfl : y = 8 := by omega
      have hsz := hS.out.lt
      have HC := Lib.hid (Try.Builder_String_any (w.heap.size + 1) (w.heap.size + 1) (txH h 8) wr hS.out (by omega))
      have HT := Lib.hid hB.out
      clear hsz hA hS hB
      go_wp2_with fail
      refine HC.out.mono ?_
      rintro e w2 ⟨rfl, hB2⟩
      have T2 := Lib.hid (HT.out.trans (hB2.mono (by omega)))
      clear hB2
      go_wp2_with fail
      go_ret
      exact ⟨rfl, T2.out⟩
end Go.Proofs.Ytopfehbdnopokaa
