/-
  No statement is proved here: GoesTo in the document's own text; condition: at most 1048576 rows of at most 1048576 bytes.
-/
import Derived.Test.YtcdjabhdbobghaaDoorGoS
namespace Go.Proofs.YtcdjabhdbobghaaDoor
open Go.ChangeShapes Go.WideShapes Go.ChangeAt Go.RowKit

theorem loopF_zero {c : Int} {L : List ByteArray} {r a : Int} (h : loopF c L r a = 0) : okF c L = true ∧ isLoop c L r a = true := by
  unfold loopF at h
  split at h
  · rename_i h1
    split at h
    · rename_i h2
      exact ⟨h1, h2⟩
    · simp at h
  · simp at h

set_option maxRecDepth 100000 in
set_option maxHeartbeats 4000000 in
theorem specLoop_any (b : Nat) (c : Int) (v : Value) (L : List ByteArray) (r a : Int) (w : World) (c0 : w.cell? ⟨b, 0, none⟩ = some (.int .i16 c)) (c1 : w.cell? ⟨b, 1, none⟩ = some v) (hc : -32768 ≤ c ∧ c ≤ 32767) (h : Strs w v L) (hn : L.length ≤ 1048576) (hs : ∀ j, j < L.length → (rowAt L j).size ≤ 1048576) (hr : -32768 ≤ r ∧ r ≤ 32767) (ha : -32768 ≤ a ∧ a ≤ 32767) :
    Calls Tryd.prog 23 #[.pointer (some ⟨b, 0, none⟩), .agg #[.int .i16 r, .int .i16 a]] w fun e w' => e = .returned (.int .i64 (loopF c L r a)) ∧ Below w.heap.size w w' := by
  have hbz := World.block_lt_of_cell? w _ c0
  obtain ⟨W0, hW0⟩ : ∃ W0, W0 = w.alloc (.cells #[.int .i16 r, .int .i16 a] 33) := ⟨_, rfl⟩
  have A0 : Below w.heap.size w W0 := hW0 ▸ (Below.refl _ _).alloc (Nat.le_refl _) _
  have HOK := Lib.hid (specOk_any b c v L W0 (kept A0 hbz c0) (kept A0 hbz c1) hc (h.below A0) hn hs)
  have HIS := Lib.hid fun n (hok : okF c L = true) => specIs_any b c v L r a (W0.drewN n) (kept (A0.trans ((bdN W0 n).mono A0.size)) hbz c0) (kept (A0.trans ((bdN W0 n).mono A0.size)) hbz c1) hok (h.below (A0.trans ((bdN W0 n).mono A0.size))) hr ha
  have K0 := Lib.hid (show W0.cell? ⟨w.heap.size, 0, none⟩ = some (.int .i16 r) by rw [hW0]; simp [go_sem])
  have K1 := Lib.hid (show W0.cell? ⟨w.heap.size, 1, none⟩ = some (.int .i16 a) by rw [hW0]; simp [go_sem])
  have HR := Lib.hid (show loopF c L r a = if okF c L = true then (if isLoop c L r a = true then 0 else 2) else 1 from rfl)
  have HW0 := Lib.hid hW0
  have T0 := Lib.hid A0
  generalize loopF c L r a = res at *
  cases ho : okF c L with
  | false =>
    rw [ho] at HOK HR
    clear c0 c1 h hn hs hr ha HIS hW0 A0 ho
    go_enter Tryd.func23, Tryd.ntmps23
    go_wp2_with fail
    rw [← HW0.out]
    refine HOK.out.mono ?_
    rintro e w1 ⟨rfl, nd, rfl⟩
    go_wp2_with fail
    go_ret
    exact ⟨ret_int HR.out.symm, T0.out.trans ((bdN _ _).mono T0.out.size)⟩
  | true =>
    have HI2 := Lib.hid fun n => HIS.out n ho
    rw [ho] at HOK HR
    clear c0 c1 h hn hs hr ha HIS hW0 A0 ho
    generalize isLoop c L r a = li at *
    go_enter Tryd.func23, Tryd.ntmps23
    go_wp2_with fail
    rw [← HW0.out]
    refine HOK.out.mono ?_
    rintro e w1 ⟨rfl, nd, rfl⟩
    have k0 : (W0.drewN nd).cell? ⟨w.heap.size, 0, none⟩ = some (.int .i16 r) := K0.out
    have k1 : (W0.drewN nd).cell? ⟨w.heap.size, 1, none⟩ = some (.int .i16 a) := K1.out
    have T1 := Lib.hid (T0.out.trans ((bdN W0 nd).mono T0.out.size))
    have HI3 := Lib.hid (HI2.out nd)
    clear HI2 HOK
    generalize W0.drewN nd = w1 at *
    go_wp2_with fail
    refine HI3.out.mono ?_
    rintro e w2 ⟨rfl, hB⟩
    have T2 := Lib.hid (T1.out.trans (hB.mono T1.out.size))
    clear hB
    cases li with
    | false =>
      go_wp2_with fail
      go_ret
      exact ⟨ret_int HR.out.symm, T2.out⟩
    | true =>
      go_wp2_with fail
      go_ret
      exact ⟨ret_int HR.out.symm, T2.out⟩

set_option maxRecDepth 100000 in
set_option maxHeartbeats 8000000 in
theorem specGoes_any (c : Int) (v : Value) (L : List ByteArray) (r a : Int) (w : World) (hc : -32768 ≤ c ∧ c ≤ 32767) (h : Strs w v L) (hn : L.length ≤ 1048576) (hs : ∀ j, j < L.length → (rowAt L j).size ≤ 1048576) (hr : -32768 ≤ r ∧ r ≤ 32767) (ha : -32768 ≤ a ∧ a ≤ 32767) :
    Calls Tryd.prog 7 #[.agg #[.int .i16 c, v], .agg #[.int .i16 r, .int .i16 a]] w fun e w' => e = .returned (.tuple #[.int .i64 (goesF c L r a).1, .int .i64 (goesF c L r a).2]) ∧ Below w.heap.size w w' := by
  obtain ⟨W0, hW0⟩ : ∃ W0, W0 = (w.alloc (.cells #[.int .i16 c, v] 31)).alloc (.cells #[.int .i16 r, .int .i16 a] 33) := ⟨_, rfl⟩
  have A0 : Below w.heap.size w W0 := by rw [hW0]; go_grown
  have b0 : W0.cell? ⟨w.heap.size, 0, none⟩ = some (.int .i16 c) := by rw [hW0]; simp [go_sem]
  have b1 : W0.cell? ⟨w.heap.size, 1, none⟩ = some v := by rw [hW0]; simp [go_sem]
  have k0 : W0.cell? ⟨w.heap.size + 1, 0, none⟩ = some (.int .i16 r) := by rw [hW0]; simp [go_sem]
  have k1 : W0.cell? ⟨w.heap.size + 1, 1, none⟩ = some (.int .i16 a) := by rw [hW0]; simp [go_sem]
  have HZ := Lib.hid (show w.heap.size + 1 < W0.heap.size by rw [hW0]; simp)
  have HL := Lib.hid (specLoop_any w.heap.size c v L r a W0 b0 b1 hc (h.below A0) hn hs hr ha)
  have HR := Lib.hid (show goesF c L r a = if loopF c L r a = 0 then (if r = (L.length : Int) then (0, 6) else (takerTo (rowAt L r.toNat) a (rowAt L r.toNat).size, 0)) else (0, loopF c L r a) from rfl)
  have HW0 := Lib.hid hW0
  have T0 := Lib.hid A0
  have B1 := Lib.hid b1
  have K0 := Lib.hid k0
  have K1 := Lib.hid k1
  generalize goesF c L r a = res at *
  obtain ⟨ra, rb⟩ := res
  dsimp only
  have hsrc : ∀ k, k < L.length → ∃ cs q b off, v = .slice cs L.length q ∧ cs = some ⟨b, off, none⟩ ∧ b < w.heap.size ∧ w.cell? ⟨b, off + k, none⟩ = some (.string (rowAt L k)) := by
    rcases h with ⟨_, _, _, rfl⟩ | ⟨b, off, cap, e, h0, hb, hc'⟩
    · intro k hk; simp at hk
    · exact fun k hk => ⟨_, cap, b, off, e, rfl, hb, hc' k hk⟩
  have HSR := Lib.hid hsrc
  obtain ⟨cs, q, rfl⟩ := h.len
  by_cases h0 : loopF c L r a = 0
  · obtain ⟨hok, hil⟩ := loopF_zero h0
    obtain ⟨hcb, hfine⟩ := okF_parts hok
    have hlen := fine_len hfine
    unfold isLoop at hil
    rw [Bool.and_eq_true] at hil
    obtain ⟨hr1, hr2⟩ := inB_of hil.1
    obtain ⟨ha1, ha2⟩ := inB_of hil.2
    obtain ⟨R, rfl⟩ : ∃ R : Nat, r = (R : Int) := ⟨r.toNat, by omega⟩
    rw [Int.toNat_natCast] at ha2 HR
    have HR1 := Lib.hid (HR.out.trans (if_pos h0))
    rw [h0] at HL
    by_cases hRn : R = L.length
    · have hre := HR1.out.trans (if_pos (by omega))
      simp only [Prod.mk.injEq] at hre
      obtain ⟨rfl, rfl⟩ := hre
      have hEq : ((R : Int) == (L.length : Int)) = true := by rw [beq_iff_eq]; omega
      have hw1 : IntKind.i64.wrap (R : Int) = (R : Int) := (IntWalk.i64_in _ (by omega)).trans (by omega)
      clear h hn hs hc hW0 A0 b0 b1 k0 k1 hsrc hok hcb hfine hil hRn HR HR1 h0
      go_enter Tryd.func7, Tryd.ntmps7
      go_wp2_with fail
      rw [← HW0.out]
      refine HL.out.mono ?_
      rintro e w1 ⟨rfl, hB⟩
      have b1 := kept hB (Nat.lt_trans (Nat.lt_succ_self _) HZ.out) B1.out
      have k0 := kept hB HZ.out K0.out
      have k1 := kept hB HZ.out K1.out
      have T1 := Lib.hid (T0.out.trans (hB.mono T0.out.size))
      clear hB
      go_wp2_with fail
      go_ret2
      exact ⟨rfl, T1.out⟩
    · have hre := HR1.out.trans (if_neg (by omega))
      simp only [Prod.mk.injEq] at hre
      obtain ⟨rfl, rfl⟩ := hre
      have hRl : R < L.length := by omega
      obtain ⟨cs', q', b, off, ev, rfl, hb, hcell⟩ := HSR.out R hRl
      simp only [Value.slice.injEq] at ev
      obtain ⟨rfl, _, rfl⟩ := ev
      obtain ⟨hst, _, htk, _, _⟩ := canB_parts (hfine R hRl)
      have hsz := row_size hcb (k := R) fun j hj => hfine j (by omega)
      have HTA := Lib.hid (show a < sumB tk (rowAt L R) (rowAt L R).size by
        have : sumB tk (rowAt L R) (rowAt L R).size = wd c L R := htk
        omega)
      have HSB := Lib.hid fun k (hk : k ≤ (rowAt L R).size) => takes_bd (s := rowAt L R) (k := k) fun j hj => allK_get hst (by omega)
      have HTB := Lib.hid fun k (hk : k < (rowAt L R).size) => tk_bd (allK_get hst hk)
      have HSU := Lib.hid fun k => (show sumB tk (rowAt L R) (k + 1) = sumB tk (rowAt L R) k + tk (chAt (rowAt L R) k) from rfl)
      have HTK := Lib.hid fun k (h1 : ∀ j, j < k → sumB tk (rowAt L R) (j + 1) ≤ a) h2 h3 => takerTo_at (s := rowAt L R) (a := a) h1 h2 (rowAt L R).size h3
      have HCH := Lib.hid fun k hk wx => chAt_idx (rowAt L R) k hk wx
      have HTC := Lib.hid fun k wx => specTk_any (chAt (rowAt L R) k) wx
      have HB := Lib.hid hb
      have HCE := Lib.hid hcell
      have hne0 : ((R : Int) == (L.length : Int)) = false := by rw [beq_eq_false_iff_ne]; omega
      have hw1 : IntKind.i64.wrap (R : Int) = (R : Int) := (IntWalk.i64_in _ (by omega)).trans (by omega)
      have hRi : (R : Int) < (L.length : Int) := by omega
      clear h hn hs hc hW0 A0 b0 b1 k0 k1 hsrc hok hcb hfine hil hRn HR HR1 h0 hb hcell hst htk HSR
      obtain ⟨m, hm⟩ : ∃ m, m = (rowAt L R).size := ⟨_, rfl⟩
      rw [← hm] at HTA HSB HTB HTK HCH hsz
      have HM := Lib.hid hm
      have hszf : ((rowAt L R).size : Int) = (m : Int) := by rw [hm]
      clear hm
      generalize hans : takerTo (rowAt L R) a (rowAt L R).size = ans at *
      have HANS := Lib.hid hans
      clear hans
      go_enter Tryd.func7, Tryd.ntmps7
      go_wp2_with fail
      rw [← HW0.out]
      refine HL.out.mono ?_
      rintro e w1 ⟨rfl, hB⟩
      have b1 := kept hB (Nat.lt_trans (Nat.lt_succ_self _) HZ.out) B1.out
      have k0 := kept hB HZ.out K0.out
      have k1 := kept hB HZ.out K1.out
      have T1 := Lib.hid (T0.out.trans (hB.mono T0.out.size))
      have s1 := (T1.out.cell (p := ⟨b, off + R, none⟩) HB.out).trans HCE.out
      clear hB
      generalize rowAt L R = s at *
      go_wp2_with fail
      go_loopw [8, 9] (fun t i wr => ∃ k nd : Nat, k ≤ m ∧ i = .int .i64 k ∧ t = .int .i64 (sumB tk s k) ∧ wr = w1.drewN nd ∧ Hid (∀ j, j < k → sumB tk s (j + 1) ≤ a)) (fun _ i _ => m - (intOf i).toNat)
      case atStart => exact ⟨0, 0, Nat.zero_le _, rfl, rfl, rfl, Lib.hid fun j hj => absurd hj (Nat.not_lt_zero j)⟩
      case round =>
        obtain ⟨k, nd, hk, rfl, rfl, rfl, hA⟩ := hrel
        have hkm : k < m := by
          rcases Nat.lt_or_ge k m with h | h
          · exact h
          · exfalso
            have e : k = m := by omega
            have h1 := HTA.out
            by_cases h0 : m = 0
            · rw [h0] at h1
              have : sumB tk s 0 = 0 := rfl
              omega
            · have := hA.out (m - 1) (by omega)
              rw [show m - 1 + 1 = m by omega] at this
              omega
        have hch := HCH.out k hkm
        have HT1 := Lib.hid fun wx => HTC.out k wx
        have hsb := HSB.out k hk
        have htb := HTB.out k hkm
        have HS1 := Lib.hid (HSU.out k)
        have HA1 := Lib.hid (show sumB tk s (k + 1) ≤ a → ∀ j, j < k + 1 → sumB tk s (j + 1) ≤ a from fun h j hj => by
          by_cases e : j = k
          · rw [e]; exact h
          · exact hA.out j (by omega))
        have HAN := Lib.hid (fun h => HTK.out k hA.out h hkm)
        rw [HS1.out] at HA1 HAN
        have hkI : (k : Int) < (m : Int) := by omega
        generalize hch2 : chAt s k = ch at *
        have HC2 := Lib.hid hch2
        clear hch2
        generalize hS : sumB tk s k = S at *
        have HSS := Lib.hid hS
        clear hS
        generalize tk ch = y at *
        have u1 : ∀ [Inhabited Nat], IntKind.i64.wrap (S + y) = S + y := by intro _; exact (IntWalk.i64_in _ (by omega)).trans (by omega)
        have u2 : ∀ [Inhabited Nat], wrap64 (S + y) = S + y := by intro _; exact (IntWalk.wrap64_in _ (by omega)).trans (by omega)
        have w1a : IntKind.i64.wrap a = a := (IntWalk.i64_in _ (by omega)).trans (by omega)
        by_cases hle : S + y ≤ a
        · have hd : decide (S + y ≤ a) = true := decide_eq_true hle
          have HA2 := Lib.hid (HA1.out hle)
          clear HAN
          go_wp2_with fail
          go_quiet ((go_at_call 24; exact (HT1.out _).mono fun _ _ ⟨he, hw⟩ => ⟨he, _, hw.symm⟩))
          go_wp2_with fail
          refine (HT1.out _).mono ?_
          rintro e w3 ⟨rfl, rfl⟩
          go_wp2_with fail
          go_roundw
          case rel => exact ⟨k + 1, _, hkm, by go_num, by rw [HS1.out], rfl, HA2⟩
          case measure => simp [intOf]; omega
        · have hd : decide (S + y ≤ a) = false := decide_eq_false hle
          have HE := Lib.hid (HAN.out (by omega))
          clear HAN hle
          go_wp2_with fail
          go_quiet ((go_at_call 24; exact (HT1.out _).mono fun _ _ ⟨he, hw⟩ => ⟨he, _, hw.symm⟩))
          go_wp2_with fail
          go_ret2
          have hk2 : ans = (k : Int) := by rw [← HANS.out, ← HM.out]; exact HE.out
          rw [hk2]
          exact ⟨rfl, T1.out.trans (Below.mono (by first | exact bdN _ _ | exact (bdN _ _).trans ((bdN _ _).mono (by simp))) T1.out.size)⟩
  · have hre := HR.out.trans (if_neg h0)
    simp only [Prod.mk.injEq] at hre
    obtain ⟨rfl, rfl⟩ := hre
    have hne : (loopF c L r a != 0) = true := by rw [bne_iff_ne]; exact h0
    generalize loopF c L r a = code at *
    clear h hn hs hc hW0 A0 b0 b1 k0 k1 hsrc hr ha h0
    go_enter Tryd.func7, Tryd.ntmps7
    go_wp2_with fail
    rw [← HW0.out]
    refine HL.out.mono ?_
    rintro e w1 ⟨rfl, hB⟩
    have T1 := Lib.hid (T0.out.trans (hB.mono T0.out.size))
    clear hB
    go_wp2_with fail
    go_ret2
    exact ⟨rfl, T1.out⟩
end Go.Proofs.YtcdjabhdbobghaaDoor
