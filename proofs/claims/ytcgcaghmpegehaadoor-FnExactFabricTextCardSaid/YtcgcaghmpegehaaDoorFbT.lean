/-
  No statement is proved here: the text of a fabric in the document's own text; condition: at most 1048576 rows of at most 1048576 bytes.
-/
import Derived.Test.YtcgcaghmpegehaaDoorTextG
import Derived.Test.YtcgcaghmpegehaaDoorDecimal
import Derived.Test.YtcgcaghmpegehaaDoorKnitO
namespace Go.Proofs.YtcgcaghmpegehaaDoor
open Go.ChangeShapes Go.WideShapes Go.ChangeAt Go.RowKit

def rb (s : ByteArray) : List UInt8 := s.data.toList
theorem rb_str (s : ByteArray) : s = ⟨(rb s).toArray⟩ := by cases s; simp [rb]
theorem rb_len (s : ByteArray) : (rb s).length = s.size := by cases s; simp [rb, ByteArray.size]
/-- The text of a fabric's first rows. -/
def fbTo (c : Int) (L : List ByteArray) : Nat → List UInt8
  | 0 => Lib.decDigits c.toNat ++ [10]
  | k + 1 => fbTo c L k ++ (rb (rowAt L k) ++ [10])
def fbText (c : Int) (L : List ByteArray) : List UInt8 := if okF c L = true then fbTo c L L.length else []
theorem fbTo_len {c : Int} {L : List ByteArray} (hc : 1 ≤ c ∧ c ≤ 60) : ∀ {k : Nat}, (∀ j, j < k → (rowAt L j).size ≤ 120) → (fbTo c L k).length ≤ 21 + 121 * k
  | 0, _ => by
    have := dec_short c.toNat (by omega)
    simp [fbTo]
    omega
  | k + 1, h => by
    have ih := fbTo_len hc (k := k) fun j hj => h j (by omega)
    have h1 := h k (by omega)
    have h2 := rb_len (rowAt L k)
    simp [fbTo]
    omega

set_option maxRecDepth 100000 in
set_option maxHeartbeats 4000000 in
theorem l05Text_any (b : Nat) (c : Int) (v : Value) (L : List ByteArray) (w : World) (c0 : w.cell? ⟨b, 0, none⟩ = some (.int .i16 c)) (c1 : w.cell? ⟨b, 1, none⟩ = some v) (hok : okF c L = true) (h : Strs w v L) :
    Calls Tryd.prog 11 #[.pointer (some ⟨b, 0, none⟩)] w fun e w' => e = .returned (.string ⟨(fbTo c L L.length).toArray⟩) ∧ Below w.heap.size w w' := by
  obtain ⟨hcb, hfine⟩ := okF_parts hok
  have hlen := fine_len hfine
  have hbz := World.block_lt_of_cell? w _ c0
  have hrs : ∀ k, k < L.length → (rowAt L k).size ≤ 120 := fun k hk => row_size hcb (k := k) fun j hj => hfine j (by omega)
  have HLN := Lib.hid fun k (hk : k ≤ L.length) => fbTo_len hcb (L := L) (k := k) fun j hj => hrs j (by omega)
  have HRS := Lib.hid hrs
  have HST := Lib.hid fun k => show fbTo c L (k + 1) = fbTo c L k ++ (rb (rowAt L k) ++ [10]) from rfl
  obtain ⟨C, rfl⟩ : ∃ C : Nat, c = (C : Int) := ⟨c.toNat, by omega⟩
  have HZ := Lib.hid (show fbTo (C : Int) L 0 = Lib.decDigits C ++ [10] by rw [fbTo, Int.toNat_natCast])
  have hw1 : IntKind.i64.wrap (C : Int) = (C : Int) := (IntWalk.i64_in _ (by omega)).trans (by omega)
  have hD := Lib.hid (decimal_any C (by omega))
  have hdl := dec_short C (by omega)
  have HSrc : Hid (∃ a1 cp, v = .slice a1 L.length cp ∧ ∀ k, k < L.length → ∃ b off, a1 = some ⟨b, off, none⟩ ∧ b < w.heap.size ∧ w.cell? ⟨b, off + k, none⟩ = some (.string (rowAt L k))) := by
    rcases h with ⟨a1, cp, rfl, rfl⟩ | ⟨b, off, cap, rfl, h0, hb, hc⟩
    · exact ⟨a1, cp, rfl, fun k hk => absurd hk (Nat.not_lt_zero k)⟩
    · exact ⟨_, cap, rfl, fun k hk => ⟨b, off, rfl, hb, hc k hk⟩⟩
  obtain ⟨a1, cp, rfl, hsrc⟩ := HSrc.out
  have HSR := Lib.hid hsrc
  obtain ⟨n, hln⟩ : ∃ n, n = L.length := ⟨_, rfl⟩
  rw [← hln] at hlen HLN HRS c1 HSR ⊢
  obtain ⟨D, hDD⟩ : ∃ D, D = Lib.decDigits C := ⟨_, rfl⟩
  rw [← hDD] at hD hdl HZ
  have hadd0 : ∀ wx : World, (Op.stringOp .add ⟨D.toArray⟩ ⟨#[10]⟩).run Tryd.prog wx = .ok (.string ⟨(fbTo (C : Int) L 0).toArray⟩) wx := fun wx => by
    rw [HZ.out]
    exact add_lists _ [10] (by omega) (by simp) wx
  have HC1 := Lib.hid c1
  have HBZ := Lib.hid hbz
  clear h hok hcb hfine hrs hsrc hln hDD HSrc hdl HZ
  obtain ⟨T, hT⟩ : ∃ T : Nat → List UInt8, T = fbTo (C : Int) L := ⟨_, rfl⟩
  rw [← hT] at hadd0 HLN HST ⊢
  clear hT
  go_enter Tryd.func11, Tryd.ntmps11
  go_wp2_with fail
  refine (hD.out _).mono ?_
  rintro e w1 ⟨rfl, hB⟩
  have B1 := Lib.hid hB
  clear hB hD c0 c1
  go_wp2_with fail
  go_loopw [3, 4] (fun s i wr => ∃ k : Nat, k ≤ n ∧ i = .int .i64 k ∧ s = .string ⟨(T k).toArray⟩ ∧ Hid (Below w.heap.size w wr)) (fun _ i _ => n - (intOf i).toNat)
  case atStart => exact ⟨0, Nat.zero_le _, rfl, rfl, B1⟩
  case round =>
    clear B1 hadd0
    obtain ⟨k, hk, rfl, rfl, hB⟩ := hrel
    have c1 := kept hB.out HBZ.out HC1.out
    by_cases hlt : k < n
    · have hltI : (k : Int) < (n : Int) := by omega
      obtain ⟨b1, off, rfl, hb1, hcell⟩ := HSR.out k hlt
      have s1 := kept hB.out hb1 hcell
      have hl1 := HLN.out k hk
      have hl2 := HRS.out k hlt
      have hst := HST.out k
      have hrl := rb_len (rowAt L k)
      have hrs := rb_str (rowAt L k)
      obtain ⟨Y, hY⟩ : ∃ Y, Y = rb (rowAt L k) := ⟨_, rfl⟩
      rw [← hY] at hst hrl hrs
      rw [hrs] at s1
      have hadd1 : ∀ wx : World, (Op.stringOp .add ⟨Y.toArray⟩ ⟨#[10]⟩).run Tryd.prog wx = .ok (.string ⟨(Y ++ [10]).toArray⟩) wx := fun wx => add_lists _ [10] (by omega) (by simp) wx
      have hadd2 : ∀ wx : World, (Op.stringOp .add ⟨(T k).toArray⟩ ⟨(Y ++ [10]).toArray⟩).run Tryd.prog wx = .ok (.string ⟨(T (k + 1)).toArray⟩) wx := fun wx => by
        rw [hst]
        exact add_lists _ _ (by omega) (by simp; omega) wx
      clear hst hrl hrs hY hcell hl1 hl2
      obtain ⟨Y1, hY1⟩ : ∃ Y1, Y1 = Y ++ [10] := ⟨_, rfl⟩
      obtain ⟨X, hX⟩ : ∃ X, X = T k := ⟨_, rfl⟩
      obtain ⟨X2, hX2⟩ : ∃ X2, X2 = T (k + 1) := ⟨_, rfl⟩
      have HX2 := Lib.hid hX2
      rw [← hY1] at hadd1 hadd2
      rw [← hX, ← hX2] at hadd2
      rw [← hX]
      clear hY1 hX hX2
      go_wp2
      go_roundw
      case rel => exact ⟨k + 1, by omega, by go_num, by rw [HX2.out], hB⟩
      case measure => simp [intOf]; omega
    · obtain rfl : k = n := by omega
      go_wp2
      go_ret
      exact ⟨rfl, hB.out⟩

set_option maxRecDepth 100000 in
set_option maxHeartbeats 2000000 in
theorem specFbText_any (c : Int) (v : Value) (L : List ByteArray) (w : World) (hc : -32768 ≤ c ∧ c ≤ 32767) (h : Strs w v L) (hn : L.length ≤ 1048576) (hs : ∀ j, j < L.length → (rowAt L j).size ≤ 1048576) :
    Calls Tryd.prog 5 #[.agg #[.int .i16 c, v]] w fun e w' => e = .returned (.string ⟨(fbText c L).toArray⟩) ∧ Below w.heap.size w w' := by
  obtain ⟨W0, hW0⟩ : ∃ W0, W0 = w.alloc (.cells #[.int .i16 c, v] 28) := ⟨_, rfl⟩
  have A0 : Below w.heap.size w W0 := hW0 ▸ (Below.refl _ _).alloc (Nat.le_refl _) _
  have b0 : W0.cell? ⟨w.heap.size, 0, none⟩ = some (.int .i16 c) := by rw [hW0]; simp [go_sem]
  have b1 : W0.cell? ⟨w.heap.size, 1, none⟩ = some v := by rw [hW0]; simp [go_sem]
  have HOK := Lib.hid (specOk_any w.heap.size c v L W0 b0 b1 hc (h.below A0) hn hs)
  have HT := Lib.hid fun n (hok : okF c L = true) => l05Text_any w.heap.size c v L (W0.drewN n) b0 b1 hok (h.below (A0.trans ((bdN W0 n).mono A0.size)))
  have T0 := Lib.hid A0
  have HW0 := Lib.hid hW0
  obtain ⟨a1, cp, rfl⟩ := h.len
  clear h hn hs hc A0 hW0 b0 b1
  unfold fbText
  cases ho : okF c L with
  | false =>
    rw [ho] at HOK
    rw [if_neg (by decide)]
    clear HT ho
    go_enter Tryd.func5, Tryd.ntmps5
    go_wp2_with fail
    rw [← HW0.out]
    refine HOK.out.mono ?_
    rintro e w1 ⟨rfl, nd, rfl⟩
    go_wp2_with fail
    go_ret
    exact ⟨rfl, T0.out.trans ((bdN _ _).mono T0.out.size)⟩
  | true =>
    rw [ho] at HOK
    rw [if_pos rfl]
    have HT2 := Lib.hid fun n => HT.out n ho
    clear HT ho
    generalize fbTo c L L.length = X at *
    go_enter Tryd.func5, Tryd.ntmps5
    go_wp2_with fail
    rw [← HW0.out]
    refine HOK.out.mono ?_
    rintro e w1 ⟨rfl, nd, rfl⟩
    have T1 := Lib.hid (T0.out.trans ((bdN W0 nd).mono T0.out.size))
    have HT3 := Lib.hid (HT2.out nd)
    clear HT2 HOK
    generalize W0.drewN nd = w1 at *
    go_wp2_with fail
    refine HT3.out.mono ?_
    rintro e w2 ⟨rfl, hB⟩
    have B2 := Lib.hid (T1.out.trans (hB.mono T1.out.size))
    clear hB
    go_wp2_with fail
    go_ret
    exact ⟨rfl, B2.out⟩
end Go.Proofs.YtcgcaghmpegehaaDoor
