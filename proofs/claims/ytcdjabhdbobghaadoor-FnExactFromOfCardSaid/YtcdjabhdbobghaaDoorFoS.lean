/-
  No statement is proved here: FromOf in the document's own text; condition: at most 1048576 rows of at most 1048576 bytes.
-/
import Derived.Test.YtcdjabhdbobghaaDoorGoT
import Derived.Test.YtcdjabhdbobghaaDoorFoM
import Derived.Deep.AppendLies
import Derived.OwnWalk
import Derived.Laws.OwnMore
namespace Go.Proofs.YtcdjabhdbobghaaDoor
open Go.ChangeShapes Go.WideShapes Go.ChangeAt Go.RowKit

set_option maxRecDepth 100000 in
set_option maxHeartbeats 16000000 in
theorem specFrom_any (c : Int) (v : Value) (L : List ByteArray) (r a : Int) (w : World) (hc : -32768 ≤ c ∧ c ≤ 32767) (h : Strs w v L) (hn : L.length ≤ 1048576) (hs : ∀ j, j < L.length → (rowAt L j).size ≤ 1048576) (hr : -32768 ≤ r ∧ r ≤ 32767) (ha : -32768 ≤ a ∧ a ≤ 32767) :
    Calls Tryd.prog 12 #[.agg #[.int .i16 c, v], .agg #[.int .i16 r, .int .i16 a]] w fun e w' => ∃ x, e = .returned (.tuple #[x, .int .i64 (fromF c L r a).2]) ∧ Own w' w.heap.size x (fromF c L r a).1 ∧ Below w.heap.size w w' := by
  obtain ⟨i0, hi, hz0, hz1, hz2⟩ := info_parts info64
  obtain ⟨V0, hV0⟩ : ∃ V0, V0 = (w.alloc (.cells #[.int .i16 c, v] 31)).alloc (.cells #[.int .i16 r, .int .i16 a] 33) := ⟨_, rfl⟩
  have hvz : V0.heap.size = w.heap.size + 2 := by rw [hV0]; simp
  obtain ⟨W0, hW0⟩ : ∃ W0, W0 = V0.alloc (.cells #[] 2) := ⟨_, rfl⟩
  have A0 : Below w.heap.size w W0 := by rw [hW0, hV0]; go_grown
  have b0 : W0.cell? ⟨w.heap.size, 0, none⟩ = some (.int .i16 c) := by rw [hW0, hV0]; simp [go_sem]
  have b1 : W0.cell? ⟨w.heap.size, 1, none⟩ = some v := by rw [hW0, hV0]; simp [go_sem]
  have k0 : W0.cell? ⟨w.heap.size + 1, 0, none⟩ = some (.int .i16 r) := by rw [hW0, hV0]; simp [go_sem]
  have k1 : W0.cell? ⟨w.heap.size + 1, 1, none⟩ = some (.int .i16 a) := by rw [hW0, hV0]; simp [go_sem]
  have O0 : Hid (Own W0 (w.heap.size + 2) (.slice (some ⟨w.heap.size + 2, 0, none⟩) 0 0) []) := Lib.hid (by
    have := World.ownsRow_made (e := 2) (size := 1) V0 #[] 0 (Nat.le_refl _) (by decide) rfl
    rw [hvz, ← hW0] at this
    exact this)
  have HZ := Lib.hid (show w.heap.size + 2 < W0.heap.size by rw [hW0]; simp [hvz])
  have HL := Lib.hid (specLoop_any w.heap.size c v L r a W0 b0 b1 hc (h.below A0) hn hs hr ha)
  have HR := Lib.hid (show fromF c L r a = if loopF c L r a = 0 then (if r = 0 then ([], 0) else (fromTo (rowAt L (r.toNat - 1)) a (rowAt L (r.toNat - 1)).size, 0)) else ([], loopF c L r a) from rfl)
  have HV0 := Lib.hid hV0
  have HW0 := Lib.hid hW0
  have HVZ := Lib.hid hvz
  have T0 := Lib.hid A0
  have B1 := Lib.hid b1
  have K0 := Lib.hid k0
  have K1 := Lib.hid k1
  generalize fromF c L r a = res at *
  obtain ⟨ra, rb⟩ := res
  dsimp only
  have hsrc : ∀ k, k < L.length → ∃ cs q b off, v = .slice cs L.length q ∧ cs = some ⟨b, off, none⟩ ∧ b < w.heap.size ∧ w.cell? ⟨b, off + k, none⟩ = some (.string (rowAt L k)) := by
    rcases h with ⟨_, _, _, rfl⟩ | ⟨b, off, cap, e, h0, hb, hc'⟩
    · intro k hk; simp at hk
    · exact fun k hk => ⟨_, cap, b, off, e, rfl, hb, hc' k hk⟩
  have HSR := Lib.hid hsrc
  obtain ⟨cs, q, rfl⟩ := h.len
  by_cases h0 : loopF c L r a = 0
  · obtain ⟨hok, hil⟩ := loopF_zero h0
    obtain ⟨hcb, hfine⟩ := okF_parts hok
    have hlen := fine_len hfine
    unfold isLoop at hil
    rw [Bool.and_eq_true] at hil
    obtain ⟨hr1, hr2⟩ := inB_of hil.1
    obtain ⟨ha1, ha2⟩ := inB_of hil.2
    have HR1 := Lib.hid (HR.out.trans (if_pos h0))
    rw [h0] at HL
    by_cases hR0 : r = 0
    · subst hR0
      have hre := HR1.out.trans (if_pos rfl)
      simp only [Prod.mk.injEq] at hre
      obtain ⟨rfl, rfl⟩ := hre
      clear h hn hs hc hW0 hV0 A0 b0 b1 k0 k1 hsrc hok hcb hfine hil HR HR1 h0 hvz
      go_enter Tryd.func12, Tryd.ntmps12
      go_wp2_with fail
      rw [← HV0.out, ← HW0.out]
      refine HL.out.mono ?_
      rintro e w1 ⟨rfl, hB⟩
      have k0 := kept hB (Nat.lt_trans (Nat.lt_succ_self _) HZ.out) K0.out
      have T1 := Lib.hid (T0.out.trans (hB.mono T0.out.size))
      have O1 := Lib.hid (O0.out.below hB)
      clear hB
      go_wp2_with fail
      go_ret2
      exact ⟨_, rfl, O1.out.mono (by omega), T1.out⟩
    · obtain ⟨R, rfl⟩ : ∃ R : Nat, r = (R : Int) + 1 := ⟨(r - 1).toNat, by omega⟩
      have hre := HR1.out.trans (if_neg (by omega))
      rw [show ((R : Int) + 1).toNat - 1 = R by omega] at hre
      simp only [Prod.mk.injEq] at hre
      obtain ⟨hra, rfl⟩ := hre
      have hRl : R < L.length := by omega
      obtain ⟨cs', q', b, off, ev, rfl, hb, hcell⟩ := HSR.out R hRl
      simp only [Value.slice.injEq] at ev
      obtain ⟨rfl, _, rfl⟩ := ev
      obtain ⟨hst, _, _, _, _⟩ := canB_parts (hfine R hRl)
      have hsz := row_size hcb (k := R) fun j hj => hfine j (by omega)
      have HSB := Lib.hid fun k (hk : k ≤ (rowAt L R).size) => takes_bd (s := rowAt L R) (k := k) fun j hj => allK_get hst (by omega)
      have HTB := Lib.hid fun k (hk : k < (rowAt L R).size) => tk_bd (allK_get hst hk)
      have HMB := Lib.hid fun k => makes_bd (rowAt L R) k
      have HMX := Lib.hid fun k => mk_bd (chAt (rowAt L R) k)
      have HSU := Lib.hid fun k => (show sumB tk (rowAt L R) (k + 1) = sumB tk (rowAt L R) k + tk (chAt (rowAt L R) k) from rfl)
      have HMU := Lib.hid fun k => (show sumB mk (rowAt L R) (k + 1) = sumB mk (rowAt L R) k + mk (chAt (rowAt L R) k) from rfl)
      have HFU := Lib.hid fun k => (show fromTo (rowAt L R) a (k + 1) = fromTo (rowAt L R) a k ++ (if makesAt (rowAt L R) a k = true then placesF (sumB tk (rowAt L R) k) (tk (chAt (rowAt L R) k)).toNat else []) from rfl)
      have HMA := Lib.hid fun k => (show makesAt (rowAt L R) a k = (decide (sumB mk (rowAt L R) k ≤ a) && decide (a < sumB mk (rowAt L R) k + mk (chAt (rowAt L R) k))) from rfl)
      have HFL := Lib.hid fun k (hk : k ≤ (rowAt L R).size) => fromTo_length (s := rowAt L R) (a := a) k fun j hj => (tk_bd (allK_get hst (show j < (rowAt L R).size by omega))).2
      have HCH := Lib.hid fun k hk wx => chAt_idx (rowAt L R) k hk wx
      have HTC := Lib.hid fun k wx => specTk_any (chAt (rowAt L R) k) wx
      have HMC := Lib.hid fun k wx => specMk_any (chAt (rowAt L R) k) wx
      have HIN := Lib.hid fun lo hi' wx => in_any a lo hi' wx
      have HB := Lib.hid hb
      have HCE := Lib.hid hcell
      have hne0 : ((R : Int) + 1 == 0) = false := by rw [beq_eq_false_iff_ne]; omega
      have hw0 : (R : Int) + 1 - 1 = (R : Int) := by omega
      have hw1 : IntKind.i16.wrap (R : Int) = (R : Int) := (IntWalk.i16_in _ (by omega)).trans (by omega)
      have hRi : (R : Int) < (L.length : Int) := by omega
      have HRA := Lib.hid hra
      clear h hn hs hc hW0 hV0 A0 b0 b1 k0 k1 hsrc hok hcb hfine hil hR0 HR HR1 h0 hb hcell hst HSR hra hvz
      obtain ⟨m, hm⟩ : ∃ m, m = (rowAt L R).size := ⟨_, rfl⟩
      rw [← hm] at HSB HTB HCH hsz HRA HFL
      have hszf : ((rowAt L R).size : Int) = (m : Int) := by rw [hm]
      clear hm
      go_enter Tryd.func12, Tryd.ntmps12
      go_wp2_with fail
      rw [← HV0.out, ← HW0.out]
      refine HL.out.mono ?_
      rintro e w1 ⟨rfl, hB⟩
      have b1 := kept hB (Nat.lt_trans (Nat.lt_trans (Nat.lt_succ_self _) (Nat.lt_succ_self _)) HZ.out) B1.out
      have k0 := kept hB (Nat.lt_trans (Nat.lt_succ_self _) HZ.out) K0.out
      have k1 := kept hB (Nat.lt_trans (Nat.lt_succ_self _) HZ.out) K1.out
      have T1 := Lib.hid (T0.out.trans (hB.mono T0.out.size))
      have O1 := Lib.hid (O0.out.below hB)
      have L1 := Lib.hid (show w.heap.size + 2 < w1.heap.size from Nat.lt_of_lt_of_le HZ.out hB.size)
      have s1 := (T1.out.cell (p := ⟨b, off + R, none⟩) HB.out).trans HCE.out
      have K11 := Lib.hid k1
      clear hB
      generalize rowAt L R = s at *
      go_wp2_with fail
      go_loopw [6, 9, 10, 11] (fun o t u i wr => ∃ (k : Nat) (x : Value), k ≤ m ∧ x = o ∧ i = .int .i64 k ∧ t = .int .i64 (sumB tk s k) ∧ u = .int .i64 (sumB mk s k) ∧ Hid (Own wr (w.heap.size + 2) x (fromTo s a k)) ∧ Hid (Below (w.heap.size + 2) w1 wr)) (fun _ _ _ i _ => m - (intOf i).toNat)
      case atStart => exact ⟨0, _, Nat.zero_le _, rfl, rfl, rfl, rfl, O1, Below.refl _ _⟩
      case round =>
        clear O1
        obtain ⟨k, x6, hk, rfl, rfl, rfl, rfl, hO, hB⟩ := hrel
        obtain ⟨xa, xc, rfl⟩ := hO.out.ints.len
        by_cases hkm : k < m
        · as_aux_lemma =>
          have hch := HCH.out k hkm
          have HT1 := Lib.hid fun wx => HTC.out k wx
          have HM1 := Lib.hid fun wx => HMC.out k wx
          have hsb := HSB.out k hk
          obtain ⟨htb1, htb2⟩ := HTB.out k hkm
          have hmb := HMB.out k
          obtain ⟨hmx1, hmx2⟩ := HMX.out k
          have HS1 := Lib.hid (HSU.out k)
          have HU1 := Lib.hid (HMU.out k)
          have HF1 := Lib.hid (HFU.out k)
          have hfl := HFL.out k hk
          have HIB : Hid (inB a (sumB mk s k) (sumB mk s k + mk (chAt s k) - 1) = makesAt s a k) := Lib.hid (by
            rw [HMA.out k]
            unfold inB
            rw [← Bool.decide_and, decide_eq_decide]
            omega)
          have d1 := kept hB.out (Nat.lt_succ_self _) K11.out
          have hw2 : IntKind.i64.wrap a = a := (IntWalk.i64_in _ (by omega)).trans (by omega)
          obtain ⟨hsb1, hsb2⟩ := hsb
          obtain ⟨hmb1, hmb2⟩ := hmb
          have hkI : (k : Int) < (m : Int) := by omega
          have hszm : (m : Int) ≤ 120 := by omega
          have HI1 := Lib.hid fun wx => HIN.out (sumB mk s k) (sumB mk s k + mk (chAt s k) - 1) wx
          rw [HIB.out] at HI1
          obtain ⟨X, hX⟩ : ∃ X : Nat, tk (chAt s k) = (X : Int) := ⟨(tk (chAt s k)).toNat, by omega⟩
          rw [hX] at HS1 HT1 htb2
          rw [hX, Int.toNat_natCast] at HF1
          clear htb1 hX HIB HMA HFU HFL HMU HSU HMX HMB HTB HSB HCH HTC HMC HIN
          generalize makesAt s a k = mA at *
          generalize chAt s k = ch at *
          generalize mk ch = y at *
          generalize hS : sumB tk s k = S at *
          generalize hU : sumB mk s k = U at *
          have HSS := Lib.hid hS
          have HUU := Lib.hid hU
          clear hS hU
          obtain ⟨F, hF⟩ : ∃ F, F = fromTo s a k := ⟨_, rfl⟩
          rw [← hF] at hO hfl HF1 ⊢
          clear hF
          have HFL2 := Lib.hid hfl
          obtain ⟨n, hnF⟩ : ∃ n, n = F.length := ⟨_, rfl⟩
          have HNF := Lib.hid hnF
          have hn2 : n ≤ 2 := by omega
          rw [← hnF]
          have O2 := Lib.hid hO.out
          rw [← hnF] at O2
          have HBD := Lib.hid hB.out
          clear hnF hO hfl hB
          have hX2 : X ≤ 2 := by omega
          go_wp2_with fail
          refine (HT1.out _).mono ?_
          rintro e wz ⟨rfl, rfl⟩
          go_wp2_with fail
          refine (HM1.out _).mono ?_
          rintro e wz ⟨rfl, rfl⟩
          go_wp2_with fail
          refine (HI1.out _).mono ?_
          rintro e wz ⟨rfl, rfl⟩
          cases mA with
          | false =>
            simp only [Bool.false_eq_true, if_false, List.append_nil] at HF1
            go_wp2
            go_roundw
            case rel => exact ⟨k + 1, _, by omega, rfl, by go_num, by rw [HS1.out], by rw [HU1.out], by rw [HF1.out]; exact O2, HBD⟩
            case measure => simp [intOf]; omega
          | true =>
            simp only [if_true] at HF1
            go_wp2_with fail
            go_loopw [6, 14] (fun o j wq => ∃ (i : Nat) (x : Value), i ≤ X ∧ x = o ∧ j = .int .i64 i ∧ Hid (Own wq (w.heap.size + 2) x (F ++ placesF S i)) ∧ Hid (Below (w.heap.size + 2) w1 wq)) (fun _ j _ => X - (intOf j).toNat)
            case atStart => exact ⟨0, _, Nat.zero_le _, rfl, rfl, by rw [show F ++ placesF S 0 = F by simp [placesF]]; exact O2, HBD⟩
            case round =>
              clear O2 HBD
              obtain ⟨i, x7, hi7, rfl, rfl, hO7, hB7⟩ := hrel
              obtain ⟨ya, yc, rfl⟩ : ∃ ya yc, x7 = .slice ya (n + i) yc := by
                obtain ⟨ya, yc, e⟩ := hO7.out.ints.len
                rw [List.length_append, placesF_length, ← HNF.out] at e
                exact ⟨ya, yc, e⟩
              by_cases hix : i < X
              · as_aux_lemma =>
                have hixI : (i : Int) < (X : Int) := by omega
                have R7 : Hid (wr.ownsRow (w.heap.size + 2) 2 1 (.slice ya (n + i) yc) (n + i) ((F ++ placesF S i).map (Value.int .i64))) := Lib.hid (by
                  have h := hO7.out.row
                  rw [List.length_append, placesF_length, ← HNF.out] at h
                  exact h)
                have hle := hB7.out.size
                have hlw := L1.out
                have HLT := Lib.hid (show w.heap.size + 2 ≤ wr.heap.size from Nat.le_of_lt (Nat.lt_of_lt_of_le hlw hle))
                have HLB := Lib.hid (World.ownsRow.lt R7.out)
                have hni : n + i ≤ 4 := by omega
                have hSi : S + (i : Int) ≤ 1000 := by omega
                clear hle hlw hO7
                go_wp2_with (first
                  | (at_builtin; refine wpList_append_lies _ rfl _ _ _ rfl (w.heap.size + 2) 2 i0 (.int .i64 0) 1 8 Tryd.underlying37 hi hz0 hz1 hz2 rfl (by omega) (.slice ya (n + i) yc) (n + i) _ rfl (R7.out.alloc _) ⟨wr.heap.size, 0, none⟩ 1 1 _ rfl rfl (World.news_of_block (heap_alloc_new wr _)) (int_one1 _) (by omega) (by unfold maxLen; omega) (by omega) (by simp; have := HLT.out; omega) (wr.heap.size + 1) (by simp) ?_; intro g1 cap1 w4 hown hgrow hat hlt2)
                  | fail)
                have O8 : Hid (Own w4 (w.heap.size + 2) (.slice (some ⟨g1, 0, none⟩) (n + i + 1 : Nat) cap1) (F ++ placesF S (i + 1))) := by
                  show World.ownsRow _ _ _ _ _ _ _
                  rw [show F ++ placesF S (i + 1) = (F ++ placesF S i) ++ [S + (i : Int)] by rw [placesF, List.append_assoc], List.map_append, List.length_append, List.length_append, placesF_length, ← HNF.out, List.map_singleton]
                  exact hown
                have B8 := Lib.hid (hB7.out.grown (grown_al hgrow) HLT.out (fun j hj => (HLB.out j hj).1))
                clear hown hgrow hat hlt2 R7 hB7
                go_wp2
                go_roundw
                case rel => exact ⟨i + 1, _, by omega, rfl, by go_num, O8, B8⟩
                case measure => simp [intOf]; omega
              · as_aux_lemma =>
                have hkn : i = X := by omega
                subst hkn
                have O8 := Lib.hid (show Own wr (w.heap.size + 2) (.slice ya (n + i) yc) (fromTo s a (k + 1)) by rw [HF1.out]; exact hO7.out)
                clear hO7
                go_wp2
                go_roundw
                case rel => exact ⟨k + 1, _, by omega, rfl, by go_num, by rw [HS1.out], by rw [HU1.out], O8, hB7⟩
                case measure => simp [intOf]; omega
        · as_aux_lemma =>
          have hkn : k = m := by omega
          subst hkn
          have hre := HRA.out
          subst hre
          clear HRA
          obtain ⟨n, hnF⟩ : ∃ n, n = (fromTo s a k).length := ⟨_, rfl⟩
          rw [← hnF]
          have hO2 := Lib.hid hO.out
          rw [← hnF] at hO2
          have HN := Lib.hid hnF
          clear hnF hO
          go_wp2_with fail
          go_ret2
          exact ⟨_, rfl, hO2.out.mono (by omega), T1.out.trans (hB.out.mono (by omega))⟩
  · have hre := HR.out.trans (if_neg h0)
    simp only [Prod.mk.injEq] at hre
    obtain ⟨rfl, rfl⟩ := hre
    have hne : (loopF c L r a != 0) = true := by rw [bne_iff_ne]; exact h0
    generalize loopF c L r a = code at *
    clear h hn hs hc hW0 hV0 A0 b0 b1 k0 k1 hsrc hr ha h0 hvz
    go_enter Tryd.func12, Tryd.ntmps12
    go_wp2_with fail
    rw [← HV0.out, ← HW0.out]
    refine HL.out.mono ?_
    rintro e w1 ⟨rfl, hB⟩
    have T1 := Lib.hid (T0.out.trans (hB.mono T0.out.size))
    have O1 := Lib.hid (O0.out.below hB)
    clear hB
    go_wp2_with fail
    go_ret2
    exact ⟨_, rfl, O1.out.mono (by omega), T1.out⟩
end Go.Proofs.YtcdjabhdbobghaaDoor
