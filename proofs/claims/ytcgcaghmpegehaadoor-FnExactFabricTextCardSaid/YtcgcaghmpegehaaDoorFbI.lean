/-
  No statement is proved here: the text of a fabric in the program; condition: its errors and the library's table of powers lie where the texts lay them; at most 1048576 rows of at most 1048576 bytes.
-/
import Derived.Test.YtcgcaghmpegehaaDoorFbT
import Derived.Test.YtcgcaghmpegehaaDoorValidI
import Derived.Test.YtcgcaghmpegehaaDoorItoa
namespace Go.Proofs.YtcgcaghmpegehaaDoor
open Go.ChangeShapes Go.WideShapes Go.ChangeAt Go.RowKit

set_option maxRecDepth 100000 in
set_option maxHeartbeats 4000000 in
theorem implFbText_any (p : Nat → Addr) (c : Int) (v : Value) (L : List ByteArray) (w : World) (hs : Sent w p) (htab : Lib.TabIs Tryd.prog w "internal/strconv.uint64pow10" .u64 Lib.pow10Tab) (hc : -32768 ≤ c ∧ c ≤ 32767) (h : Strs w v L) (hn : L.length ≤ 1048576) (hsz : ∀ j, j < L.length → (rowAt L j).size ≤ 1048576) :
    Calls Tryd.prog 7 #[.agg #[.int .i16 c, v]] w fun e w' => e = .returned (.string ⟨(fbText c L).toArray⟩) ∧ Below w.heap.size w w' := by
  obtain ⟨W0, hW0⟩ : ∃ W0, W0 = w.alloc (.cells #[.int .i16 c, v] 28) := ⟨_, rfl⟩
  have A0 : Below w.heap.size w W0 := hW0 ▸ (Below.refl _ _).alloc (Nat.le_refl _) _
  have b0 : W0.cell? ⟨w.heap.size, 0, none⟩ = some (.int .i16 c) := by rw [hW0]; simp [go_sem]
  have b1 : W0.cell? ⟨w.heap.size, 1, none⟩ = some v := by rw [hW0]; simp [go_sem]
  have HV := Lib.hid (implValid_any p c v L W0 (hs.below A0) hc (h.below A0) hn hsz)
  have T0 := Lib.hid A0
  have HW0 := Lib.hid hW0
  have C0 := Lib.hid b0
  have C1 := Lib.hid b1
  have HBZ := Lib.hid (show w.heap.size < W0.heap.size by rw [hW0]; simp)
  have HT0 := Lib.hid (tab_below htab A0)
  have HSrc : Hid (∃ a1 cp, v = .slice a1 L.length cp ∧ ∀ k, k < L.length → ∃ b off, a1 = some ⟨b, off, none⟩ ∧ b < w.heap.size ∧ w.cell? ⟨b, off + k, none⟩ = some (.string (rowAt L k))) := by
    rcases h with ⟨a1, cp, rfl, rfl⟩ | ⟨b, off, cap, rfl, h0, hb, hc⟩
    · exact ⟨a1, cp, rfl, fun k hk => absurd hk (Nat.not_lt_zero k)⟩
    · exact ⟨_, cap, rfl, fun k hk => ⟨b, off, rfl, hb, hc k hk⟩⟩
  obtain ⟨a1, cp, rfl, hsrc⟩ := HSrc.out
  have HSR := Lib.hid hsrc
  clear h hn hsz hc A0 hW0 b0 b1 htab hs hsrc HSrc
  unfold fbText
  cases ho : okF c L with
  | false =>
    rw [ho] at HV
    rw [if_neg (by decide)]
    clear ho
    have b0 := C0.out
    have b1 := C1.out
    go_enter Tryd.func7, Tryd.ntmps7
    go_wp2_with fail
    rw [← HW0.out]
    refine HV.out.mono ?_
    rintro e w1 ⟨rfl, hB⟩
    have B1 := Lib.hid (T0.out.trans (hB.mono T0.out.size))
    clear hB
    go_wp2_with fail
    go_ret
    exact ⟨rfl, B1.out⟩
  | true =>
    rw [ho] at HV
    rw [if_pos rfl]
    obtain ⟨hcb, hfine⟩ := okF_parts ho
    have hlen := fine_len hfine
    have hrs : ∀ k, k < L.length → (rowAt L k).size ≤ 120 := fun k hk => row_size hcb (k := k) fun j hj => hfine j (by omega)
    have HLN := Lib.hid fun k (hk : k ≤ L.length) => fbTo_len hcb (L := L) (k := k) fun j hj => hrs j (by omega)
    have HRS := Lib.hid hrs
    have HST := Lib.hid fun k => show fbTo c L (k + 1) = fbTo c L k ++ (rb (rowAt L k) ++ [10]) from rfl
    obtain ⟨C, rfl⟩ : ∃ C : Nat, c = (C : Int) := ⟨c.toNat, by omega⟩
    have HZ := Lib.hid (show fbTo (C : Int) L 0 = Lib.decDigits C ++ [10] by rw [fbTo, Int.toNat_natCast])
    have hw1 : IntKind.i64.wrap (C : Int) = (C : Int) := (IntWalk.i64_in _ (by omega)).trans (by omega)
    have hdl := dec_short C (by omega)
    obtain ⟨n, hln⟩ : ∃ n, n = L.length := ⟨_, rfl⟩
    have HIt := Lib.hid fun wx ht => itoa_any C (by omega) wx ht
    rw [← hln] at hlen HLN HRS C1 HSR HW0 HV ⊢
    obtain ⟨D, hDD⟩ : ∃ D, D = Lib.decDigits C := ⟨_, rfl⟩
    rw [← hDD] at HIt hdl HZ
    have hadd0 : ∀ wx : World, (Op.stringOp .add ⟨D.toArray⟩ ⟨#[10]⟩).run Tryd.prog wx = .ok (.string ⟨(fbTo (C : Int) L 0).toArray⟩) wx := fun wx => by
      rw [HZ.out]
      exact add_lists _ [10] (by omega) (by simp) wx
    clear hcb hfine hrs hln hDD hdl HZ ho
    obtain ⟨T, hT⟩ : ∃ T : Nat → List UInt8, T = fbTo (C : Int) L := ⟨_, rfl⟩
    rw [← hT] at hadd0 HLN HST ⊢
    clear hT
    have b0 := C0.out
    have b1 := C1.out
    go_enter Tryd.func7, Tryd.ntmps7
    go_wp2_with fail
    rw [← HW0.out]
    refine HV.out.mono ?_
    rintro e w1 ⟨rfl, hB⟩
    have B1 := Lib.hid (T0.out.trans (hB.mono T0.out.size))
    have HT1 := Lib.hid (tab_below HT0.out hB)
    have D1 := Lib.hid (kept hB HBZ.out C1.out)
    have Z1 := Lib.hid (Nat.lt_of_lt_of_le HBZ.out hB.size)
    clear b0 b1
    have b0 := kept hB HBZ.out C0.out
    clear hB HV
    go_wp2_with fail
    refine (HIt.out _ HT1.out).mono ?_
    rintro e w2 ⟨rfl, hB⟩
    have B2 := Lib.hid (B1.out.trans (hB.mono B1.out.size))
    clear b0
    have b1 := kept hB Z1.out D1.out
    clear hB HIt
    go_wp2_with fail
    clear b1 hadd0
    go_loopw [3, 17] (fun s i wr => ∃ k : Nat, k ≤ n ∧ i = .int .i64 k ∧ s = .string ⟨(T k).toArray⟩ ∧ Hid (Below w.heap.size w wr)) (fun _ i _ => n - (intOf i).toNat)
    case atStart => exact ⟨0, Nat.zero_le _, rfl, rfl, B2⟩
    case round =>
      clear B2
      obtain ⟨k, hk, rfl, rfl, hB⟩ := hrel
      by_cases hlt : k < n
      · have hltI : (k : Int) < (n : Int) := by omega
        obtain ⟨bb, off, rfl, hb1, hcell⟩ := HSR.out k hlt
        have s1 := kept hB.out hb1 hcell
        have hl1 := HLN.out k hk
        have hl2 := HRS.out k hlt
        have hst := HST.out k
        have hrl := rb_len (rowAt L k)
        have hrs := rb_str (rowAt L k)
        obtain ⟨Y, hY⟩ : ∃ Y, Y = rb (rowAt L k) := ⟨_, rfl⟩
        rw [← hY] at hst hrl hrs
        rw [hrs] at s1
        have hadd1 : ∀ wx : World, (Op.stringOp .add ⟨Y.toArray⟩ ⟨#[10]⟩).run Tryd.prog wx = .ok (.string ⟨(Y ++ [10]).toArray⟩) wx := fun wx => add_lists _ [10] (by omega) (by simp) wx
        have hadd2 : ∀ wx : World, (Op.stringOp .add ⟨(T k).toArray⟩ ⟨(Y ++ [10]).toArray⟩).run Tryd.prog wx = .ok (.string ⟨(T (k + 1)).toArray⟩) wx := fun wx => by
          rw [hst]
          exact add_lists _ _ (by omega) (by simp; omega) wx
        clear hst hrl hrs hY hcell hl1 hl2
        obtain ⟨Y1, hY1⟩ : ∃ Y1, Y1 = Y ++ [10] := ⟨_, rfl⟩
        obtain ⟨X, hX⟩ : ∃ X, X = T k := ⟨_, rfl⟩
        obtain ⟨X2, hX2⟩ : ∃ X2, X2 = T (k + 1) := ⟨_, rfl⟩
        have HX2 := Lib.hid hX2
        rw [← hY1] at hadd1 hadd2
        rw [← hX, ← hX2] at hadd2
        rw [← hX]
        clear hY1 hX hX2
        go_wp2
        go_roundw
        case rel => exact ⟨k + 1, by omega, by go_num, by rw [HX2.out], hB⟩
        case measure => simp [intOf]; omega
      · obtain rfl : k = n := by omega
        go_wp2
        go_ret
        exact ⟨rfl, hB.out⟩
end Go.Proofs.YtcgcaghmpegehaaDoor
