/-
  No statement is proved here: whether a fabric has a loop, in the document's own text; condition: at most 1048576 rows of at most 1048576 bytes.
-/
import Derived.Test.YtcdjabhdbobghaaDoorGoM
import Derived.Test.YtcdjabhdbobghaaDoorWidS0
import Derived.BigQuiet
namespace Go.Proofs.YtcdjabhdbobghaaDoor
open Go.ChangeShapes Go.WideShapes Go.ChangeAt Go.RowKit

set_option maxRecDepth 100000 in
set_option maxHeartbeats 4000000 in
theorem specIs_any (b : Nat) (c : Int) (v : Value) (L : List ByteArray) (r a : Int) (w : World) (c0 : w.cell? ⟨b, 0, none⟩ = some (.int .i16 c)) (c1 : w.cell? ⟨b, 1, none⟩ = some v) (hok : okF c L = true) (h : Strs w v L) (hr : -32768 ≤ r ∧ r ≤ 32767) (ha : -32768 ≤ a ∧ a ≤ 32767) :
    Calls Tryd.prog 39 #[.pointer (some ⟨b, 0, none⟩), .agg #[.int .i16 r, .int .i16 a]] w fun e w' => e = .returned (.bool (isLoop c L r a)) ∧ Below w.heap.size w w' := by
  obtain ⟨hcb, hfine⟩ := okF_parts hok
  have hlen := fine_len hfine
  have hbz := World.block_lt_of_cell? w _ c0
  obtain ⟨W0, hW0⟩ : ∃ W0, W0 = w.alloc (.cells #[.int .i16 r, .int .i16 a] 33) := ⟨_, rfl⟩
  have A0 : Below w.heap.size w W0 := hW0 ▸ (Below.refl _ _).alloc (Nat.le_refl _) _
  have HWD := Lib.hid (specWid_any b c v L W0 (kept A0 hbz c0) (kept A0 hbz c1) (Nat.lt_of_lt_of_le hbz A0.size) hok (h.below A0))
  have k0 : W0.cell? ⟨w.heap.size, 0, none⟩ = some (.int .i16 r) := by rw [hW0]; simp [go_sem]
  have k1 : W0.cell? ⟨w.heap.size, 1, none⟩ = some (.int .i16 a) := by rw [hW0]; simp [go_sem]
  have hz : w.heap.size < W0.heap.size := by rw [hW0]; simp
  have HIn := Lib.hid fun n lo hi wx => in_any n lo hi wx
  have HW0 := Lib.hid hW0
  have T0 := Lib.hid A0
  have K0 := Lib.hid k0
  have K1 := Lib.hid k1
  have HZ := Lib.hid hz
  have HWB := Lib.hid fun k (hk : k ≤ L.length) => wd_bd hcb (k := k) fun j hj => hfine j (by omega)
  have HL1 := Lib.hid (fun h => isLoop_row (c := c) (L := L) (r := r) (a := a) h)
  have HL2 := Lib.hid (fun h => isLoop_at (c := c) (L := L) (r := r) (a := a) h)
  generalize isLoop c L r a = res at *
  obtain ⟨hr1, hr2⟩ := hr
  obtain ⟨ha1, ha2⟩ := ha
  clear c0 c1 hok h hcb hfine hbz A0 hW0 hz k0 k1
  go_enter Tryd.func39, Tryd.ntmps39
  go_wp2_with fail
  rw [← HW0.out]
  refine HWD.out.mono ?_
  rintro e w2 ⟨u, rfl, own, hB⟩
  obtain ⟨ua, uc, rfl⟩ : ∃ ua uc, u = .slice ua (L.length + 1 : Nat) uc := by
    obtain ⟨ua, uc, e⟩ := own.ints.len
    rw [wdsTo_length] at e
    exact ⟨ua, uc, e⟩
  have T2 := Lib.hid (T0.out.trans (hB.mono T0.out.size))
  have k0 := kept hB HZ.out K0.out
  have k1 := kept hB HZ.out K1.out
  cases hi : inB r 0 (L.length : Int) with
  | false =>
    have HL := Lib.hid (HL1.out hi)
    clear HL1 HL2
    have HI1 := Lib.hid fun wx => in_any r 0 (L.length : Int) wx
    rw [hi] at HI1
    clear hi own hB HWD
    go_wp2_with fail
    go_quiet ((go_at_call 30; exact Calls.quiet_of_same ((HI1.out _).mono fun _ _ ⟨he, hw⟩ => ⟨he, hw.symm⟩)))
    go_wp2_with fail
    go_ret
    exact ⟨ret_bool HL.out.symm, T2.out.trans ((bdN _ _).mono T2.out.size)⟩
  | true =>
    have HL := Lib.hid (HL2.out hi)
    clear HL1 HL2
    obtain ⟨hi1, hi2⟩ := inB_of hi
    obtain ⟨R, rfl⟩ : ∃ R : Nat, r = (R : Int) := ⟨r.toNat, by omega⟩
    rw [Int.toNat_natCast] at HL
    obtain ⟨g, rfl, hgb, hgs⟩ : ∃ g, ua = some ⟨g, 0, none⟩ ∧ W0.heap.size ≤ g ∧ g < w2.heap.size := by
      rcases own.row.2 with ⟨e, h'⟩ | ⟨g, c', cur, e, hb, hg, _⟩
      · rw [wdsTo_length] at h'; omega
      · simp only [Value.slice.injEq] at e
        exact ⟨g, e.1, hb, lt_of_block hg⟩
    have hrow := own.row
    rw [wdsTo_length] at hrow
    have cx := (hrow.cellAt R (by omega)).trans (cellOf (by rw [wdsTo_length]; omega))
    rw [wdsTo_get c L (L.length + 1) R (by omega)] at cx
    have hwb := HWB.out R (by omega)
    have HI1 := Lib.hid fun wx => in_any (R : Int) 0 (L.length : Int) wx
    rw [hi] at HI1
    have HI2 := Lib.hid fun wx => in_any a 0 (wd c L R - 1) wx
    have hRn : (R : Int) < ((L.length + 1 : Nat) : Int) := by push_cast; omega
    clear hi own hB HWD hrow
    generalize wd c L R = y at *
    go_wp2_with fail
    go_quiet ((first | (go_at_call_of 30 (Value.int IntKind.i64 (R : Int)); exact Calls.quiet_of_same ((HI1.out _).mono fun _ _ ⟨he, hw⟩ => ⟨he, hw.symm⟩)) | (go_at_call 30; exact Calls.quiet_of_same ((HI2.out _).mono fun _ _ ⟨he, hw⟩ => ⟨he, hw.symm⟩))))
    go_wp2_with fail
    go_ret
    exact ⟨ret_bool HL.out.symm, T2.out.trans ((bdN _ _).mono T2.out.size)⟩
end Go.Proofs.YtcdjabhdbobghaaDoor
