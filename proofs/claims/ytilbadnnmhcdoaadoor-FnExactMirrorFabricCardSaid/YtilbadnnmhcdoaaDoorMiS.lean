/-
  No statement is proved here: MirrorFabric in the document's own text; condition: at most 1048576 rows of at most 1048576 bytes.
-/
import Derived.Test.YtilbadnnmhcdoaaDoorMiM
import Derived.Deep.DeepCutAuto
namespace Go.Proofs.YtilbadnnmhcdoaaDoor
open Go.ChangeShapes Go.WideShapes Go.ChangeAt Go.RowKit

set_option maxRecDepth 100000 in
set_option maxHeartbeats 16000000 in
theorem specMir_any (c : Int) (v : Value) (L : List ByteArray) (w : World) (hc : -32768 ≤ c ∧ c ≤ 32767) (hC : StrsC w v L) (hn : L.length ≤ 1048576) (hsz : ∀ j, j < L.length → (rowAt L j).size ≤ 1048576) :
    Calls Tryd.prog 28 #[.agg #[.int .i16 c, v]] w fun e w' => ∃ x, e = .returned (.tuple #[.agg #[.int .i16 (mirF c L).1.1, x], .int .i64 (mirF c L).2]) ∧ OwnT w' w.heap.size x (mirF c L).1.2 ∧ Below w.heap.size w w' := by
  obtain ⟨i0, hi, hz0, hz1, hz2⟩ := info_parts infoStr
  obtain ⟨i1, hj, hy0, hy1, hy2⟩ := info_parts infoU8
  obtain ⟨W0, hW0⟩ : ∃ W0, W0 = (w.alloc (.cells #[.int .i16 c, v] 27)).alloc (.cells #[.int .i16 0, .slice none 0 0] 27) := ⟨_, rfl⟩
  have T0 := Lib.hid (show Below w.heap.size w W0 by rw [hW0]; go_grown)
  have b0 : W0.cell? ⟨w.heap.size, 0, none⟩ = some (.int .i16 c) := by rw [hW0]; simp [go_sem]
  have b1 : W0.cell? ⟨w.heap.size, 1, none⟩ = some v := by rw [hW0]; simp [go_sem]
  have r0 : W0.cell? ⟨w.heap.size + 1, 0, none⟩ = some (.int .i16 0) := by rw [hW0]; simp [go_sem]
  have r1 : W0.cell? ⟨w.heap.size + 1, 1, none⟩ = some (.slice none 0 0) := by rw [hW0]; simp [go_sem]
  have f0 : W0.frozen? ⟨w.heap.size + 1, 0, none⟩ = false := by rw [hW0]; simp [go_sem]
  have f1 : W0.frozen? ⟨w.heap.size + 1, 1, none⟩ = false := by rw [hW0]; simp [go_sem]
  have HZ := Lib.hid (show w.heap.size + 1 < W0.heap.size by rw [hW0]; simp)
  have HOK := Lib.hid (specOk_any w.heap.size c v L W0 b0 b1 hc (hC.1.below T0.out) hn hsz)
  obtain ⟨cs, q, rfl⟩ := hC.1.len
  have hsrc : ∀ k, k < L.length → ∃ b off, cs = some ⟨b, off, none⟩ ∧ b < w.heap.size ∧ w.cell? ⟨b, off + k, none⟩ = some (.string (rowAt L k)) := by
    rcases hC.1 with ⟨_, _, _, rfl⟩ | ⟨b, off, cap, e, h0, hb, hc'⟩
    · intro k hk; simp at hk
    · simp only [Value.slice.injEq] at e
      obtain ⟨rfl, _, _⟩ := e
      exact fun k hk => ⟨b, off, rfl, hb, hc' k hk⟩
  have HSR := Lib.hid hsrc
  have HW0 := Lib.hid hW0
  have B0 := Lib.hid b0
  have B1 := Lib.hid b1
  have R0 := Lib.hid r0
  have R1 := Lib.hid r1
  have F0 := Lib.hid f0
  have F1 := Lib.hid f1
  cases ho : okF c L with
  | false =>
    rw [ho] at HOK
    rw [mirF_no ho]
    clear hW0 hC b0 b1 r0 r1 f0 f1 hsrc
    go_enter Tryd.func28, Tryd.ntmps28
    go_wp2_with fail
    rw [← HW0.out]
    refine HOK.out.mono ?_
    rintro e w1 ⟨rfl, nd, rfl⟩
    have r0 : (W0.drewN nd).cell? ⟨w.heap.size + 1, 0, none⟩ = some (.int .i16 0) := R0.out
    have r1 : (W0.drewN nd).cell? ⟨w.heap.size + 1, 1, none⟩ = some (.slice none 0 0) := R1.out
    have f0 : (W0.drewN nd).frozen? ⟨w.heap.size + 1, 0, none⟩ = false := F0.out
    have f1 : (W0.drewN nd).frozen? ⟨w.heap.size + 1, 1, none⟩ = false := F1.out
    have T1 := Lib.hid (T0.out.trans ((bdN W0 nd).mono T0.out.size))
    generalize W0.drewN nd = w1 at *
    obtain ⟨e0, e1⟩ := res2 (.int .i16 0) (.slice none 0 0) r0 r1
    go_wp2_with fail
    refine bodyPost_ret (by simp [results, Tryd.results28, go_sem, e0, e1]; try rfl) rfl ?_
    exact ⟨_, rfl, World.ownsRow_nil _ _ _ _, below_set (below_set T1.out (by omega) _) (by omega) _⟩
  | true =>
    rw [ho] at HOK
    rw [mirF_yes ho]
    obtain ⟨hcb, hfine⟩ := okF_parts ho
    have hlen := fine_len hfine
    have HRS := Lib.hid fun k (hk : k < L.length) => row_size hcb (k := k) fun j hj => hfine j (by omega)
    have HMT := Lib.hid fun i (hi : i < L.length) => mir_take (L := L) hi
    have HMA := Lib.hid (show (L.take L.length).map revT = L.map revT by rw [List.take_length])
    have HML := Lib.hid fun i (hi : i ≤ L.length) => (show ((L.take i).map revT).length = i by rw [List.length_map, List.length_take]; omega)
    have HRV := Lib.hid fun s => (show revT s = txB (revL s s.size) from rfl)
    have HRL := Lib.hid revL_len
    have HRU := Lib.hid revL_succ
    have HCH := Lib.hid chAt_idx
    have HCL := Lib.hid chAt_le
    clear hW0 hC b0 b1 r0 r1 f0 f1 ho hsz hfine hsrc hc hcb
    obtain ⟨n, hln⟩ : ∃ n, n = L.length := ⟨_, rfl⟩
    rw [← hln] at HMA HRS HMT HML HSR B1 hlen hn ⊢
    rw [← hln] at HW0
    clear hln
    go_enter Tryd.func28, Tryd.ntmps28
    go_wp2_with fail
    rw [← HW0.out]
    refine HOK.out.mono ?_
    rintro e w1 ⟨rfl, nd, rfl⟩
    have b0 : (W0.drewN nd).cell? ⟨w.heap.size, 0, none⟩ = some (.int .i16 c) := B0.out
    have T1 := Lib.hid (T0.out.trans ((bdN W0 nd).mono T0.out.size))
    have Z1 : Hid (w.heap.size + 1 < (W0.drewN nd).heap.size) := HZ
    have A1 : Below (W0.drewN nd).heap.size (W0.drewN nd) ((W0.drewN nd).alloc (.cells #[.int .i16 c, .slice none 0 0] 27)) := (Below.refl _ _).alloc (Nat.le_refl _) _
    have zb : w.heap.size < (W0.drewN nd).heap.size := Nat.lt_trans (Nat.lt_succ_self _) Z1.out
    have M1 : Hid (MB w.heap.size (w.heap.size + 1) (W0.drewN nd).heap.size c (.slice cs n q) (.slice none 0 0) ((W0.drewN nd).alloc (.cells #[.int .i16 c, .slice none 0 0] 27))) := Lib.hid
      ⟨⟨kept A1 zb B0.out, kept A1 zb B1.out⟩, ⟨kept A1 Z1.out R0.out, kept A1 Z1.out R1.out, (A1.frozen (p := ⟨w.heap.size + 1, 0, none⟩) Z1.out).trans F0.out, (A1.frozen (p := ⟨w.heap.size + 1, 1, none⟩) Z1.out).trans F1.out⟩,
       made2 _ _ _ _, Nat.lt_of_lt_of_le zb A1.size, Nat.lt_of_lt_of_le Z1.out A1.size, by simp⟩
    have T2 := Lib.hid (T1.out.trans (A1.mono T1.out.size))
    have Z2 : Hid ((W0.drewN nd).heap.size < ((W0.drewN nd).alloc (.cells #[.int .i16 c, .slice none 0 0] 27)).heap.size) := Lib.hid (by simp)
    clear A1 zb T0 B0 B1 R0 R1 F0 F1 HOK HW0 HZ
    generalize W0.drewN nd = w1 at *
    go_wp2_with fail
    generalize w1.alloc (.cells #[.int .i16 c, .slice none 0 0] 27) = w2 at *
    generalize w1.heap.size = ob at *
    have O2 : Hid (OwnT w2 (ob + 1) (.slice none 0 0) ((L.take 0).map revT)) := Lib.hid (World.ownsRow_nil _ _ _ _)
    go_loopw [5] (fun i wr => ∃ (k : Nat) (ra : Option Addr) (rn rc : Nat), k ≤ n ∧ i = .int .i64 k ∧ Hid (MB w.heap.size (w.heap.size + 1) ob c (.slice cs n q) (.slice ra rn rc) wr) ∧ Hid (OwnT wr (ob + 1) (.slice ra rn rc) ((L.take k).map revT)) ∧ Hid (Below w.heap.size w wr)) (fun i _ => n - (intOf i).toNat)
    case atStart => exact ⟨0, none, 0, 0, Nat.zero_le _, rfl, M1, O2, T2⟩
    case round =>
      clear M1 O2 T2 T1 Z2 b0
      obtain ⟨i, ra, rn, rc, hi', rfl, hM, hO, hB⟩ := hrel
      obtain ⟨⟨m1, m2⟩, ⟨m3, m4, m5, m6⟩, ⟨m7, m8, m9⟩, _, _, mz⟩ := hM.out
      by_cases hlt : i < n
      · have hltI : (i : Int) < (n : Int) := by omega
        obtain ⟨sb, off, rfl, hsb, hcell⟩ := HSR.out i hlt
        have s1 := (hB.out.cell (p := ⟨sb, off + i, none⟩) hsb).trans hcell
        have hss := HRS.out i hlt
        have HS1 := Lib.hid hcell
        have HSB := Lib.hid hsb
        have HMi := Lib.hid (HMT.out i hlt)
        have HMl := Lib.hid (HML.out i hi')
        have HMl1 := Lib.hid (HML.out (i + 1) hlt)
        clear hcell hsb
        generalize rowAt L i = s at *
        obtain ⟨m, hm⟩ : ∃ m, m = s.size := ⟨_, rfl⟩
        have HM := Lib.hid hm
        rw [← hm] at hss
        have hszf : (s.size : Int) = (m : Int) := by rw [hm]
        clear hm
        have A2 : Below wr.heap.size wr (wr.alloc (.cells #[] 5)) := (Below.refl _ _).alloc (Nat.le_refl _) _
        have M2 := Lib.hid (hM.out.next A2)
        have O2 := Lib.hid (hO.out.below A2)
        have T2 := Lib.hid (hB.out.trans (A2.mono hB.out.size))
        have BY0 : Hid (OwnB (wr.alloc (.cells #[] 5)) wr.heap.size (.slice (some ⟨wr.heap.size, 0, none⟩) 0 0) (revL s 0)) := Lib.hid (World.ownsRow_made (size := 1) (e := 5) wr #[] 0 (Nat.le_refl _) (by decide) rfl)
        have HRO := Lib.hid (show ∀ k, (Value.slice ra rn rc).ownBlock = some k → ob + 1 ≤ k ∧ k < wr.heap.size from hO.out.lt)
        have ZE : Hid (wr.heap.size ≤ (wr.alloc (.cells #[] 5)).heap.size) := Lib.hid (by simp)
        have mz' := Lib.hid mz
        obtain ⟨E, hE⟩ : ∃ E, E = wr.heap.size := ⟨_, rfl⟩
        rw [← hE] at BY0 HRO ZE mz'
        have HE := Lib.hid hE
        have hmz : ob < E := by rw [hE]; exact mz
        obtain ⟨⟨_, n2⟩, _⟩ := M2.out
        have s2 := kept A2 (Nat.lt_of_lt_of_le HSB.out hB.out.size) s1
        clear hM hO hB m1 m3 m4 m5 m6 m7 m8 m9 mz hE A2
        go_wp2_with fail
        clear m2 s1
        rw [← HE.out]
        generalize wr.alloc (.cells #[] 5) = w3 at *
        go_loopw [6, 7] (fun u kk wq => ∃ (t : Nat) (k : Int) (x : Value), kk = .int .i64 k ∧ x = u ∧ t ≤ m ∧ -1 ≤ k ∧ k < (m : Int) ∧ Hid (k = (m : Int) - 1 - t) ∧ Hid (OwnB wq E x (revL s t)) ∧ Hid (MB w.heap.size (w.heap.size + 1) ob c (.slice (some ⟨sb, off, none⟩) n q) (.slice ra rn rc) wq) ∧ Hid (OwnT wq (ob + 1) (.slice ra rn rc) ((L.take i).map revT)) ∧ Hid (Below w.heap.size w wq) ∧ Hid (E ≤ wq.heap.size)) (fun _ kk _ => (intOf kk + 1).toNat)
        case atStart => exact ⟨0, (m : Int) - 1, _, by go_num, rfl, Nat.zero_le _, by omega, by omega, Lib.hid (by omega), BY0, M2, O2, T2, ZE⟩
        case round =>
          clear BY0 M2 O2 T2 ZE n2 s2
          obtain ⟨t, k, x, rfl, rfl, ht, hk1, hk2, hK, hBy, hM, hO, hB, hZE⟩ := hrel
          obtain ⟨⟨m1, m2⟩, _, ⟨m7, m8, m9⟩, _⟩ := hM.out
          have s1 := (hB.out.cell (p := ⟨sb, off + i, none⟩) HSB.out).trans HS1.out
          have HXB := Lib.hid (show ∀ j, x.ownBlock = some j → E ≤ j from fun j hj => (hBy.out.lt j hj).1)
          have hzo : w.heap.size + 1 < ob := Z1.out
          by_cases hk : 0 ≤ k
          · obtain ⟨kN, hkN⟩ : ∃ kN : Nat, k = (kN : Int) := ⟨k.toNat, by omega⟩
            have HKE := Lib.hid (show s.size - 1 - t = kN by have := hK.out; have := HM.out; omega)
            have htm : t < m := by have := hK.out; omega
            subst hkN
            have hch := HCH.out s kN (by have := HM.out; omega)
            have hcl := HCL.out s kN
            have HRk := Lib.hid (HRU.out s t)
            rw [HKE.out] at HRk
            have hkm : (kN : Int) < (m : Int) := hk2
            have RB : Hid (wr.ownsRow E 5 1 x t ((revL s t).map (Value.int .u8))) := Lib.hid (by
              have h := hBy.out.row
              rwa [HRL.out] at h)
            generalize chAt s kN = ch at *
            go_wp2_with (first
              | (at_builtin; refine wpList_append_lies _ rfl _ _ _ rfl E 5 i1 (.int .u8 0) 1 1 Tryd.underlying91 hj hy0 hy1 hy2 rfl (by omega) x t _ rfl (RB.out.alloc _) ⟨wr.heap.size, 0, none⟩ 1 1 [.int .u8 (ch : Int)] rfl rfl (World.news_of_block (heap_alloc_new wr _)) (byte_one _) (by omega) (by unfold maxLen; omega) (by omega) (by have := hZE.out; simp; omega) (wr.heap.size + 1) (by simp) ?_; intro gg cap w4 hown hgrow hat hlt2)
              | fail)
            have G4 := grown_alO hgrow
            have O4 : Hid (OwnB w4 E (.slice (some ⟨gg, 0, none⟩) (t + 1) cap) (revL s (t + 1))) := by
              unfold OwnB
              rw [HRL.out, HRk.out, List.map_append]
              exact hown
            have M4 := Lib.hid (hM.out.grown G4 (farM HXB.out (by omega)) (farM HXB.out (by omega)) (farM HXB.out hmz))
            have R4 := Lib.hid (hO.out.kept G4 (apartM (fun j hj => (HRO.out j hj).2) HXB.out))
            have T4 := Lib.hid (hB.out.grown G4 (by have := hZE.out; omega) (fun j hj => by have := HXB.out j hj; omega))
            have Z4 := Lib.hid (Nat.le_trans hZE.out G4.size)
            have HK4 := Lib.hid (show (kN : Int) - 1 = (m : Int) - 1 - ((t + 1 : Nat) : Int) by have := hK.out; push_cast; omega)
            clear hown hgrow hat hlt2 G4 hBy hM hO hB hZE m1 m2 m7 m8 m9 s1
            go_wp2
            go_roundw
            case rel => exact ⟨t + 1, (kN : Int) - 1, _, by go_num, rfl, htm, by omega, by omega, HK4, O4, M4, R4, T4, Z4⟩
            case measure => simp [intOf] <;> omega
          · have hkm1 : k = -1 := by omega
            have htm : t = m := by have := hK.out; omega
            subst htm
            subst hkm1
            have hcv := text_of hBy.out
            rw [HM.out, ← HRV.out] at hcv
            have RR : Hid (wr.ownsRow (ob + 1) 9 1 (.slice ra rn rc) i (((L.take i).map revT).map Value.string)) := Lib.hid (by
              have h := hO.out.row
              rwa [HMl.out] at h)
            have HRB := Lib.hid (show ∀ j, (Value.slice ra rn rc).ownBlock = some j → ob + 1 ≤ j from fun j hj => (HRO.out j hj).1)
            generalize revT s = tx at *
            go_wp2_with (first
              | (at_builtin; refine wpList_append_lies _ rfl _ _ _ rfl (ob + 1) 9 i0 (.string ByteArray.empty) 1 16 Tryd.underlying23 hi hz0 hz1 hz2 rfl (by omega) (.slice ra rn rc) i _ rfl (RR.out.alloc _) ⟨wr.heap.size, 0, none⟩ 1 1 [.string tx] rfl rfl (World.news_of_block (heap_alloc_new wr _)) (str_oneM _) (by omega) (by unfold maxLen; omega) (by omega) (by have := hZE.out; simp; omega) (wr.heap.size + 1) (by simp) ?_; intro gg cap w4 hown hgrow hat hlt2; have m8' := ((grown_alO hgrow).cell_far ⟨ob, 1, none⟩ (hM.out.2.2.2.2.2) (farM HRB.out (Nat.lt_succ_self _))).trans hM.out.2.2.1.2.1; have m9' := ((grown_alO hgrow).frozen_far ⟨ob, 1, none⟩ (hM.out.2.2.2.2.2) (farM HRB.out (Nat.lt_succ_self _))).trans hM.out.2.2.1.2.2)
              | fail)
            have G4 := grown_alO hgrow
            have O4 : Hid (OwnT w4 (ob + 1) (.slice (some ⟨gg, 0, none⟩) (i + 1) cap) ((L.take (i + 1)).map revT)) := by
              unfold OwnT
              rw [HMl1.out, HMi.out, List.map_append]
              exact hown
            have M4 := hM.out.grown G4 (farM HRB.out (by omega)) (farM HRB.out (by omega)) (farM HRB.out (Nat.lt_succ_self _))
            have M5 := Lib.hid (M4.put (by omega) (by omega) (.slice (some ⟨gg, 0, none⟩) (i + 1) cap))
            have T4 := hB.out.grown G4 (by have := hZE.out; omega) (fun j hj => by have := HRB.out j hj; omega)
            have T5 := Lib.hid (below_set (o := 1) T4 (show w.heap.size ≤ ob by omega) (.slice (some ⟨gg, 0, none⟩) (i + 1) cap))
            have O5 := Lib.hid (ownsRow_setCell_below (a := ⟨ob, 1, none⟩) O4.out (Nat.lt_succ_self ob) (.slice (some ⟨gg, 0, none⟩) (i + 1) cap))
            clear hown hgrow hat hlt2 G4 hBy hM hO hB hZE m1 m2 m7 m8 m9 s1 M4 T4
            go_wp2
            go_roundw
            case rel => exact ⟨i + 1, _, _, _, by omega, by go_num, M5, O5, T5⟩
            case measure => simp [intOf] <;> omega
      · obtain rfl : i = n := by omega
        obtain ⟨e0, e1⟩ := res2 (.int .i16 c) (.slice ra rn rc) m3 m4
        have HOE := Lib.hid hO.out
        rw [HMA.out] at HOE
        have HBE := Lib.hid hB.out
        have Zr := Lib.hid (show w.heap.size + 1 < ob + 1 from Nat.lt_succ_of_lt Z1.out)
        clear hM hO hB
        go_wp2_with fail
        refine bodyPost_ret (by simp [results, Tryd.results28, go_sem, e0, e1]; try rfl) rfl ?_
        exact ⟨_, rfl, OwnT.mono (base := ob + 1) (ownsRow_setCell_below (ownsRow_setCell_below HOE.out Zr.out _) Zr.out _) (by have := Zr.out; omega), below_set (below_set HBE.out (by omega) _) (by omega) _⟩
end Go.Proofs.YtilbadnnmhcdoaaDoor
