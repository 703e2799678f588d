/-
  Proved here: the law on lumps answers true, for all arguments; no condition.
-/
import Derived.Test.YtocpigibognfpaaLumpsW
namespace Go.Proofs.Ytocpigibognfpaa
open Go.ChangeShapes Go.WideShapes Go.ChangeAt Go.RowKit

theorem All.two {w : World} {v1 v2 : Value} {z1 z2 : List Int} (h1 : Ints w v1 z1) (h2 : Ints w v2 z2) : All w [(v1, z1), (v2, z2)] := by
  intro p hp
  rcases List.mem_cons.1 hp with e | e
  · subst e
    exact h1
  · rcases List.mem_cons.1 e with e | e
    · subst e
      exact h2
    · cases e

set_option maxRecDepth 100000 in
set_option maxHeartbeats 40000000 in
theorem lumps_walk {H : Type} {enc : TypeId × Value → H} (w : World) (base : Nat)
    (v0 : Value) (d0 : DataW H) (p0 : List MemPlace) (o0 : Value.okWide Try.prog w .any base 22 v0) (k0 : DataW.Trod enc Try.prog w 0 (fun _ => true) true 22 v0 d0 p0)
    (v1 : Value) (d1 : DataW H) (p1 : List MemPlace) (o1 : Value.okWide Try.prog w .any base 22 v1) (k1 : DataW.Trod enc Try.prog w 0 (fun _ => true) true 22 v1 d1 p1) :
    Calls Try.prog 3 #[v0, v1] w fun e w' => e = .returned (.bool true) ∧ Below w.heap.size w w' := by
  obtain ⟨xs, hx⟩ := open_bytes o0 k0
  obtain ⟨ys, hy⟩ := open_bytes o1 k1
  clear o0 k0 o1 k1
  have hlong := long_any v0 v1 xs ys w hx hy
  by_cases hL : 3000 < xs.length ∨ 3000 < ys.length
  · have e : (decide (3000 < xs.length) || decide (3000 < ys.length)) = true := by simpa using hL
    rw [e] at hlong
    have HL := Lib.hid hlong
    clear hlong hx hy hL e
    go_enter Try.func3, Try.ntmps3
    go_wp2_with fail
    refine HL.out.mono ?_
    rintro e w' ⟨rfl, rfl⟩
    go_wp2_with fail
    go_ret
    exact ⟨rfl, Below.refl _ _⟩
  · have e : (decide (3000 < xs.length) || decide (3000 < ys.length)) = false := by
      have h1 : ¬ 3000 < xs.length := fun h => hL (.inl h)
      have h2 : ¬ 3000 < ys.length := fun h => hL (.inr h)
      simp [h1, h2]
    rw [e] at hlong
    have HL := Lib.hid hlong
    have hnx : xs.length ≤ 3000 := by omega
    have hny : ys.length ≤ 3000 := by omega
    have HX := Lib.hid hx
    have HY := Lib.hid hy
    have HWEB := Lib.hid (a2Web_any v0 xs w hx hnx)
    clear hlong hL e hx hy
    go_enter Try.func3, Try.ntmps3
    go_wp2_with fail
    refine HL.out.mono ?_
    rintro e w' ⟨rfl, rfl⟩
    go_wp2_with fail
    refine HWEB.out.mono ?_
    rintro e w1 ⟨r, zs, rfl, own, hok, hB⟩
    have hi := own.ints
    obtain ⟨wa, wc, rfl⟩ := hi.len
    obtain ⟨wb, wo, rfl⟩ := hi.addr (by have := hok.1; omega)
    have A1 : Hid (All w1 [(.slice (some ⟨wb, wo, none⟩) zs.length wc, zs)]) := by
      intro p hp
      rcases List.mem_cons.1 hp with e | e
      · subst e
        exact hi
      · cases e
    have T1 := Lib.hid hB
    have Y1 := Lib.hid (HY.out.below hB)
    have hb := hok
    obtain ⟨hn2, hn8, hev, _⟩ := hb
    have OK := Lib.hid (okD_okW hok)
    have TH := Lib.hid (okD_thin hok)
    clear own hok hB hi HWEB HL hev
    obtain ⟨n, hln⟩ : ∃ n, n = zs.length := ⟨_, rfl⟩
    have HN := Lib.hid hln
    rw [← hln] at A1 hn2 hn8 ⊢
    clear hln
    go_wp2_with fail
    refine (a2At_any v1 ys 0 4 w1 Y1.out hny (by omega) (by omega) (by omega) (by omega)).mono ?_
    rintro e w2 ⟨t, rfl, ht0, ht1, hB⟩
    have A2 := Lib.hid (A1.out.below hB)
    have T2 := Lib.hid (T1.out.trans (hB.mono T1.out.size))
    have Y2 := Lib.hid (Y1.out.below hB)
    clear hB A1 T1 Y1
    go_wp2_with fail
    refine (a2At_any v1 ys 1 12 w2 Y2.out hny (by omega) (by omega) (by omega) (by omega)).mono ?_
    rintro e w3 ⟨m, rfl, hm0, hm1, hB⟩
    have A3 := Lib.hid (A2.out.below hB)
    have T3 := Lib.hid (T2.out.trans (hB.mono T2.out.size))
    have Y3 := Lib.hid (Y2.out.below hB)
    clear hB A2 T2 Y2
    obtain ⟨m, rfl⟩ := Int.eq_ofNat_of_zero_le hm0
    go_wp2_with fail
    refine (a2At_any v1 ys 2 n w3 Y3.out hny (by omega) (by omega) (by omega) (by omega)).mono ?_
    rintro e w4 ⟨i, rfl, hi0, hi1, hB⟩
    have A4 := Lib.hid (A3.out.below hB)
    have T4 := Lib.hid (T3.out.trans (hB.mono T3.out.size))
    clear hB A3 T3 Y3
    obtain ⟨i, rfl⟩ := Int.eq_ofNat_of_zero_le hi0
    have hin : i < n := by omega
    have ht2 : 1 ≤ 1 + t ∧ 1 + t ≤ 12 := by omega
    obtain ⟨u, hu⟩ : ∃ u, u = 1 + t := ⟨_, rfl⟩
    rw [← hu] at ht2
    have hwr : IntKind.i64.wrap (1 + t) = u := by rw [hu]; exact IntWalk.i64_in _ (by omega)
    try rw [hwr]
    try rw [← hu]
    clear hu hwr
    go_wp2_with fail
    have hbd := sum_bd_all (upTo_mono (okW_up OK.out) (show (10000 : Int) ≤ 1000000 by omega))
    have hgz := okW_get OK.out
    have hzi := okW_get OK.out i (by rw [← HN.out]; exact hin)
    obtain ⟨D, hD⟩ : ∃ D, D = lumpsTo zs u n := ⟨_, rfl⟩
    obtain ⟨S, hS⟩ : ∃ S, S = zs.sum := ⟨_, rfl⟩
    have HS := Lib.hid hS
    rw [← hS, ← HN.out] at hbd
    rw [← HN.out] at hgz
    have GZ := Lib.hid hgz
    have hth := TH.out
    rw [← HN.out] at hth
    have hcz := cntP_zero u m zs
    rw [← HN.out, ← hD] at hcz
    obtain ⟨e1, e2, e3, e4⟩ := paF_eq (t := u) m zs 0 hth
    have hst := fun k (hk : k < cntP u m zs) => itP_step (t := u) m k zs hk
    have hit := fun k => itP_thin (t := u) k zs hth
    have hPA := thin_part hth i hin
    have hat := partL_at zs i (by rw [← HN.out]; exact hin) (by rw [← HN.out]; exact hn2)
    rw [← HN.out] at hat
    have hsp : (partL zs i).sum = zs.sum := sum_partL zs i (by rw [← HN.out]; exact hin)
    have C1 := Lib.hid fun wx hx => implLumps_t (.slice (some ⟨wb, wo, none⟩) n wc) zs u wx hx OK.out ht2.1 ht2.2
    have C2 := Lib.hid fun wx hx => specLumps_t (.slice (some ⟨wb, wo, none⟩) n wc) zs u wx hx OK.out ht2.1 ht2.2
    rw [← HN.out, ← hD] at C1 C2
    have C3 := Lib.hid fun wx hx => implPart_t (.slice (some ⟨wb, wo, none⟩) n wc) zs i n wx hx OK.out (thin_ok hPA) (by rw [← HN.out]; exact hin) HN.out.symm
    have C4 := Lib.hid fun wx hx => specPart_t (.slice (some ⟨wb, wo, none⟩) n wc) zs i n wx hx OK.out (thin_ok hPA) (by rw [← HN.out]; exact hin) HN.out.symm
    have C5 := Lib.hid fun wx hx => implPartAll_t (.slice (some ⟨wb, wo, none⟩) n wc) zs u _ m n wx hx hth ht2.1 ht2.2 (by omega)
    have C6 := Lib.hid fun wx hx => specPartAll_t (.slice (some ⟨wb, wo, none⟩) n wc) zs u _ m n wx hx hth ht2.1 ht2.2 (by omega)
    have C7 := Lib.hid fun wx hx => implTotal_t (.slice (some ⟨wb, wo, none⟩) n wc) zs wx hx OK.out
    rw [← hS] at hth e2 hPA hat hsp C7
    obtain ⟨c, hc⟩ : ∃ c, c = cntP u m zs := ⟨_, rfl⟩
    rw [← hc] at hcz e2 e3 e4 hst C5 C6
    obtain ⟨M, hM⟩ : ∃ M, M = itP u c zs := ⟨_, rfl⟩
    rw [← hM] at e2 e4 C5 C6
    obtain ⟨P, hP⟩ : ∃ P, P = partL zs i := ⟨_, rfl⟩
    rw [← hP] at hPA hat hsp C3 C4
    have PD := Lib.hid hD
    have CZ := Lib.hid hcz
    have ST := Lib.hid hst
    have IT := Lib.hid hit
    have TM := Lib.hid e2
    have E4 := Lib.hid e4
    have TP := Lib.hid hPA
    have AT := Lib.hid hat
    have SP := Lib.hid hsp
    have PM := Lib.hid hM
    have PC := Lib.hid hc
    clear hcz hst hit e1 e2 e4 hPA hat hsp hM hc hP hD hth hS hgz
    refine (C1.out _ (A4.out.get 0 rfl)).mono ?_
    rintro e w5 ⟨la, lc, rfl, hi, hB⟩
    have A5 := Lib.hid (A4.out.push hB hi)
    have T5 := Lib.hid (T4.out.trans (hB.mono T4.out.size))
    clear hB hi A4 T4 C1
    go_wp2_with fail
    refine (C2.out _ (A5.out.get 1 rfl)).mono ?_
    rintro e w6 ⟨da, dc, rfl, hi, hB⟩
    have A6 := Lib.hid (A5.out.push hB hi)
    have T6 := Lib.hid (T5.out.trans (hB.mono T5.out.size))
    clear hB hi A5 T5 C2
    go_wp2_with fail
    refine (C3.out _ (A6.out.get 2 rfl)).mono ?_
    rintro e w7 ⟨pa, pc, rfl, hi, hB⟩
    have A7 := Lib.hid (A6.out.push hB hi)
    have T7 := Lib.hid (T6.out.trans (hB.mono T6.out.size))
    clear hB hi A6 T6 C3
    go_wp2_with fail
    refine (C4.out _ (A7.out.get 3 rfl)).mono ?_
    rintro e w8 ⟨ka, kc, rfl, hi, hB⟩
    have A8 := Lib.hid (A7.out.push hB hi)
    have T8 := Lib.hid (T7.out.trans (hB.mono T7.out.size))
    clear hB hi A7 T7 C4
    go_wp2_with fail
    refine (C5.out _ (A8.out.get 4 rfl)).mono ?_
    rintro e w9 ⟨va, vc, rfl, hi, hB⟩
    have A9 := Lib.hid (A8.out.push hB hi)
    have T9 := Lib.hid (T8.out.trans (hB.mono T8.out.size))
    clear hB hi A8 T8 C5
    go_wp2_with fail
    refine (C6.out _ (A9.out.get 5 rfl)).mono ?_
    rintro e w10 ⟨ma, mc, rfl, hi, hB⟩
    have A10 := Lib.hid (A9.out.push hB hi)
    have T10 := Lib.hid (T9.out.trans (hB.mono T9.out.size))
    clear hB hi A9 T9 C6
    go_wp2_with fail
    refine (C7.out _ (A10.out.get 6 rfl)).mono ?_
    rintro e w11 ⟨rfl, rfl⟩
    go_wp2_with fail
    have LD : D.length ≤ n := by rw [PD.out]; exact lumpsTo_length _ _ _
    have LP : P.length = n := TP.out.1
    have LM : M.length = n := TM.out.1
    refine (a2Same_any _ _ D _ (A10.out.get 5 rfl) (A10.out.get 4 rfl) (by omega)).mono ?_
    rintro e w12 ⟨rfl, hB⟩
    have A12 := Lib.hid (A10.out.below hB)
    have T12 := Lib.hid (T10.out.trans (hB.mono T10.out.size))
    clear hB A10 T10
    go_wp2_with fail
    refine (a2Same_any _ _ P _ (A12.out.get 3 rfl) (A12.out.get 2 rfl) (by omega)).mono ?_
    rintro e w13 ⟨rfl, hB⟩
    have A13 := Lib.hid (A12.out.below hB)
    have T13 := Lib.hid (T12.out.trans (hB.mono T12.out.size))
    clear hB A12 T12
    go_wp2_with fail
    refine (a2Same_any _ _ M _ (A13.out.get 1 rfl) (A13.out.get 0 rfl) (by omega)).mono ?_
    rintro e w14 ⟨rfl, hB⟩
    have A14 := Lib.hid (A13.out.below hB)
    have T14 := Lib.hid (T13.out.trans (hB.mono T13.out.size))
    clear hB A13 T13
    have hcm : (c : Int) ≤ (m : Int) := by omega
    go_wp2_with fail
    obtain ⟨q, hq⟩ : ∃ q, q = S / (n : Int) := ⟨_, rfl⟩
    have hqb : 0 ≤ q ∧ q ≤ 1000000 := by
      rw [hq]
      exact ⟨Int.ediv_nonneg hbd.1 (by omega), Int.ediv_le_of_le_mul (by omega) (by omega)⟩
    have hqt : S.tdiv (n : Int) = q := by rw [hq]; exact Int.tdiv_eq_ediv_of_nonneg hbd.1
    have AT2 : Hid (P.getD i 0 = min (zs.getD i 0) q) := by rw [hq]; exact AT.out
    clear hq
    go_loopw [25] (fun x wr => ∃ k : Nat, k ≤ n ∧ x = .int .i64 k ∧ Hid (All wr [(.slice ma n mc, M), (.slice va n vc, M), (.slice ka n kc, P), (.slice pa n pc, P), (.slice da D.length dc, D), (.slice la D.length lc, D), (.slice (some ⟨wb, wo, none⟩) n wc, zs)]) ∧ Hid (Below w.heap.size w wr)) (fun x _ => n - (intOf x).toNat)
    case atStart => exact ⟨0, Nat.zero_le _, rfl, A14, T14⟩
    case round =>
      clear A14 T14
      obtain ⟨k, hk, rfl, A, T⟩ := hrel
      by_cases hlt : k < n
      · have hki : (k : Int) < (n : Int) := by omega
        have cz := (A.out.get 6 rfl).at k (by rw [← HN.out]; exact hlt)
        have hz := GZ.out k hlt
        have hd : decide ((k : Int) ∈ D) = decide (u * S < zs.getD k 0 * (n : Int)) := by
          rw [PD.out, lump_dec _ _ _ _ hlt, HS.out, HN.out]
          rfl
        have HH := fun wx hx => a2Has_any (.slice da D.length dc) D k wx hx (by omega)
        rw [hd] at HH
        obtain ⟨z, hzz⟩ : ∃ z, z = zs.getD k 0 := ⟨_, rfl⟩
        rw [← hzz] at HH cz hz
        clear hzz hd
        have hm1 := mulbd hz.1 hz.2 (show (0 : Int) ≤ (n : Int) by omega) (by omega)
        have hm2 := mulbd2 (s := S) (n := u) (by omega) (by omega) (by omega) (by omega)
        have e1 : IntKind.i64.wrap (z * (n : Int)) = z * (n : Int) := IntWalk.i64_in _ (by omega)
        have e2 : IntKind.i64.wrap (u * S) = u * S := IntWalk.i64_in _ (by omega)
        by_cases hg : u * S < z * (n : Int)
        · rw [decide_eq_true hg] at HH
          have HHH := Lib.hid HH
          clear HH
          go_wp2_with fail
          go_quiet ((go_at_call 17; exact Calls.quiet_of_same ((HHH.out _ ((A.out.same _).get 4 rfl)).mono fun _ _ ⟨he, hw⟩ => ⟨he, hw.symm⟩)))
          go_wp2_with fail
          go_roundw
          case rel => exact ⟨k + 1, by omega, by go_num, A.out.same _, T.out.trans ((bdN _ _).mono T.out.size)⟩
          case measure => simp [intOf]; omega
        · rw [decide_eq_false hg] at HH
          have HHH := Lib.hid HH
          have hg' : z * (n : Int) ≤ u * S := by omega
          clear HH hg
          go_wp2_with fail
          go_quiet ((go_at_call 17; exact Calls.quiet_of_same ((HHH.out _ ((A.out.same _).get 4 rfl)).mono fun _ _ ⟨he, hw⟩ => ⟨he, hw.symm⟩)))
          go_wp2_with fail
          go_roundw
          case rel => exact ⟨k + 1, by omega, by go_num, A.out.same _, T.out.trans ((bdN _ _).mono T.out.size)⟩
          case measure => simp [intOf]; omega
      · have hkn : k = n := by omega
        subst hkn
        have D1 := Lib.hid fun wx hx => implTotal_t (.slice ka k kc) P wx hx (thin_ok TP.out)
        have D2 := Lib.hid fun wx hx => implTotal_t (.slice ma k mc) M wx hx (thin_ok TM.out)
        rw [SP.out] at D1
        rw [TM.out.2.2.2.2.1] at D2
        go_wp2_with fail
        refine (D1.out _ (A.out.get 2 rfl)).mono ?_
        rintro e w15 ⟨rfl, rfl⟩
        go_wp2_with fail
        refine (D2.out _ (A.out.get 0 rfl)).mono ?_
        rintro e w16 ⟨rfl, rfl⟩
        go_wp2_with fail
        have D3 := Lib.hid fun wx hx => implLumps_t (.slice ma k mc) M u wx hx (thin_ok TM.out) ht2.1 ht2.2
        rw [LM] at D3
        obtain ⟨R, hR⟩ : ∃ R, R = lumpsTo M u k := ⟨_, rfl⟩
        rw [← hR] at D3
        have hR0 : c = m ∨ R.length = 0 := by
          by_cases e : c = m
          · exact .inl e
          · refine .inr ?_
            have h := E4.out (by omega)
            rw [LM] at h
            rw [hR, h]
            rfl
        clear hR
        refine (D3.out _ (A.out.get 0 rfl)).mono ?_
        rintro e w17 ⟨ra, rc, rfl, hi, hB⟩
        have A17 := Lib.hid (A.out.below hB)
        have T17 := Lib.hid (T.out.trans (hB.mono T.out.size))
        clear hB hi A T D1 D2 D3
        go_wp2_with fail
        obtain ⟨kb, ko, rfl⟩ := (A17.out.get 2 rfl).addr (by rw [LP]; omega)
        have ck := (A17.out.get 2 rfl).at i (by rw [LP]; exact hin)
        rw [AT2.out] at ck
        have cw := (A17.out.get 6 rfl).at i (by rw [← HN.out]; exact hin)
        obtain ⟨z, hzz⟩ : ∃ z, z = zs.getD i 0 := ⟨_, rfl⟩
        rw [← hzz] at ck cw hzi
        clear hzz
        obtain ⟨mz, hmz⟩ : ∃ mz, mz = if q < z then q else z := ⟨_, rfl⟩
        have hmq : min z q = mz := by rw [hmz]; split <;> omega
        rw [hmq] at ck
        have hmz2 := hmz.symm
        clear hmq hmz
        have hx1 : IntKind.i64.wrap (S.tdiv (k : Int)) = q := by rw [hqt]; exact IntWalk.i64_in _ (by omega)
        have cz0 : c = 0 ↔ (m = 0 ∨ D.length = 0) := by
          have h := CZ.out
          by_cases a1 : c = 0
          · rw [decide_eq_true a1] at h
            have h' := h.symm
            simp only [Bool.or_eq_true, decide_eq_true_eq] at h'
            exact ⟨fun _ => h', fun _ => a1⟩
          · rw [decide_eq_false a1] at h
            have h' := h.symm
            simp only [Bool.or_eq_false_iff, decide_eq_false_iff_not] at h'
            exact ⟨fun h => absurd h a1, fun h => by omega⟩
        have hcases : (0 < R.length ∧ c = m ∧ c = 0) ∨ (0 < R.length ∧ c = m ∧ 0 < c ∧ 0 < D.length) ∨ (R.length = 0 ∧ c = 0 ∧ m = 0) ∨ (R.length = 0 ∧ c = 0 ∧ 0 < m ∧ D.length = 0) ∨ (R.length = 0 ∧ 0 < c ∧ 0 < m ∧ 0 < D.length) := by omega
        obtain ⟨rl, hrl⟩ : ∃ rl, rl = R.length := ⟨_, rfl⟩
        obtain ⟨dl, hdl⟩ : ∃ dl, dl = D.length := ⟨_, rfl⟩
        rw [← hrl, ← hdl] at hcases
        try rw [← hrl]
        try rw [← hdl]
        try rw [← hdl] at A17
        clear cz0 hR0 hcm hrl hdl
        rcases hcases with ⟨x1, x2, x3⟩ | ⟨x1, x2, x3, x4⟩ | ⟨x1, x2, x3⟩ | ⟨x1, x2, x3, x4⟩ | ⟨x1, x2, x3, x4⟩
        · subst x3
          subst x2
          have y1 : (0 : Int) < (rl : Int) := by omega
          go_quiet (fail)
          clear x1 y1
          go_wp2_with fail
          go_loopw [33, 34] (fun x y wr => y = .int .i64 0 ∧ ∃ a cp, x = .slice a k cp ∧ Hid (All wr [(.slice a k cp, zs), (.slice ma k mc, M)]) ∧ Hid (Below w.heap.size w wr)) (fun _ _ _ => 0)
          case atStart => exact ⟨rfl, _, _, rfl, All.two ((A17.out.same _).get 6 rfl) ((A17.out.same _).get 0 rfl), T17.out.trans ((bdN _ _).mono T17.out.size)⟩
          case round =>
            clear A17 T17
            obtain ⟨rfl, a, cp, rfl, B, T⟩ := hrel
            have B3 := B
            rw [← (show M = zs from PM.out)] at B3
            clear B
            go_wp2_with fail
            refine (a2Same_any _ _ M _ (B3.out.get 0 rfl) (B3.out.get 1 rfl) (by omega)).mono ?_
            rintro e wz ⟨rfl, hB⟩
            have T3 := Lib.hid (T.out.trans (hB.mono T.out.size))
            clear hB B3 T
            go_wp2_with fail
            go_ret
            exact ⟨rfl, T3.out⟩
        · subst x2
          have y1 : (0 : Int) < (rl : Int) := by omega
          have y2 : ((c : Int) == 0) = false := by rw [beq_eq_false_iff_ne]; omega
          have y3 : ((dl : Int) == 0) = false := by rw [beq_eq_false_iff_ne]; omega
          have y4 : (0 : Int) < (c : Int) := by omega
          have y5 : (0 : Int) < (dl : Int) := by omega
          go_quiet (fail)
          clear x1 x3 x4 y1 y2 y3 y4 y5
          go_wp2_with fail
          go_loopw [33, 34] (fun x y wr => ∃ j : Nat, j ≤ c ∧ y = .int .i64 j ∧ ∃ a cp, x = .slice a k cp ∧ Hid (All wr [(.slice a k cp, itP u j zs), (.slice ma k mc, M)]) ∧ Hid (Below w.heap.size w wr)) (fun _ y _ => c - (intOf y).toNat)
          case atStart => exact ⟨0, Nat.zero_le _, rfl, _, _, rfl, All.two ((A17.out.same _).get 6 rfl) ((A17.out.same _).get 0 rfl), T17.out.trans ((bdN _ _).mono T17.out.size)⟩
          case round =>
            clear A17 T17
            obtain ⟨j, hj, rfl, a, cp, rfl, B, T⟩ := hrel
            by_cases hlt2 : j < c
            · have hji : (j : Int) < (c : Int) := by omega
              obtain ⟨i1, tl, hi1, hl1, hs1⟩ := ST.out j hlt2
              have tj := IT.out j
              have hjl : (itP u j zs).length = k := tj.1
              have hp1 := thin_part tj i1 (by omega)
              rw [← hs1] at hp1
              obtain ⟨K, hK⟩ : ∃ K, K = itP u j zs := ⟨_, rfl⟩
              obtain ⟨K2, hK2⟩ : ∃ K2, K2 = itP u (j + 1) zs := ⟨_, rfl⟩
              rw [← hK] at B tj hjl hi1 hl1 hs1
              rw [← hK2] at hs1 hp1
              have E1 := Lib.hid fun wx hx => implLumps_t (.slice a k cp) K u wx hx (thin_ok tj) ht2.1 ht2.2
              have E2 := Lib.hid fun wx hx => specPart_t (.slice a k cp) K i1 k wx hx (thin_ok tj) (by rw [← hs1]; exact thin_ok hp1) hi1 hjl
              rw [hl1] at E1
              rw [← hs1] at E2
              obtain ⟨L1, hL1⟩ : ∃ L1, L1 = (i1 : Int) :: tl := ⟨_, rfl⟩
              rw [← hL1] at E1
              have hl0 : 0 < L1.length := by rw [hL1]; exact Nat.succ_pos _
              have h0 : L1.getD 0 0 = (i1 : Int) := by rw [hL1]; rfl
              have HK2 := Lib.hid hK2
              clear hL1 hl1 hs1 hK hK2 tj hp1
              go_wp2_with fail
              refine (E1.out _ (B.out.get 0 rfl)).mono ?_
              rintro e wx ⟨xa, xc, rfl, hi, hB⟩
              obtain ⟨l, hl⟩ : ∃ l, l = L1.length := ⟨_, rfl⟩
              obtain ⟨xb, xo, rfl⟩ := hi.addr hl0
              have cx : wx.cell? ⟨xb, xo, none⟩ = some (.int .i64 i1) := by
                have h := hi.at 0 hl0
                rw [h0] at h
                exact h
              rw [← hl]
              have hl2 : (1 : Int) ≤ (l : Int) := by omega
              have hl3 : (0 : Int) < (l : Int) := by omega
              have B1 := Lib.hid (B.out.below hB)
              have T1 := Lib.hid (T.out.trans (hB.mono T.out.size))
              clear hB hi B T h0 hl0 hl E1 hjl
              go_wp2_with fail
              refine (E2.out _ (B1.out.get 0 rfl)).mono ?_
              rintro e wy ⟨ya, yc, rfl, hi, hB⟩
              have B2 := Lib.hid (All.two hi ((B1.out.get 1 rfl).below hB))
              have T2 := Lib.hid (T1.out.trans (hB.mono T1.out.size))
              clear hB hi B1 T1 E2 cx
              rw [HK2.out] at B2
              clear HK2
              go_wp2_with fail
              go_roundw
              case rel => exact ⟨j + 1, by omega, by go_num, _, _, rfl, B2, T2⟩
              case measure => simp [intOf]; omega
            · have hjc : j = c := by omega
              have B3 := B
              rw [hjc, ← PM.out] at B3
              have hle : (c : Int) ≤ (j : Int) := by omega
              clear B hjc hlt2
              go_wp2_with fail
              refine (a2Same_any _ _ M _ (B3.out.get 0 rfl) (B3.out.get 1 rfl) (by omega)).mono ?_
              rintro e wz ⟨rfl, hB⟩
              have T3 := Lib.hid (T.out.trans (hB.mono T.out.size))
              clear hB B3 T
              go_wp2_with fail
              go_ret
              exact ⟨rfl, T3.out⟩
        · subst x1
          subst x2
          subst x3
          go_quiet (fail)
          go_wp2_with fail
          go_loopw [33, 34] (fun x y wr => y = .int .i64 0 ∧ ∃ a cp, x = .slice a k cp ∧ Hid (All wr [(.slice a k cp, zs), (.slice ma k mc, M)]) ∧ Hid (Below w.heap.size w wr)) (fun _ _ _ => 0)
          case atStart => exact ⟨rfl, _, _, rfl, All.two ((A17.out.same _).get 6 rfl) ((A17.out.same _).get 0 rfl), T17.out.trans ((bdN _ _).mono T17.out.size)⟩
          case round =>
            clear A17 T17
            obtain ⟨rfl, a, cp, rfl, B, T⟩ := hrel
            have B3 := B
            rw [← (show M = zs from PM.out)] at B3
            clear B
            go_wp2_with fail
            refine (a2Same_any _ _ M _ (B3.out.get 0 rfl) (B3.out.get 1 rfl) (by omega)).mono ?_
            rintro e wz ⟨rfl, hB⟩
            have T3 := Lib.hid (T.out.trans (hB.mono T.out.size))
            clear hB B3 T
            go_wp2_with fail
            go_ret
            exact ⟨rfl, T3.out⟩
        · subst x1
          subst x2
          subst x4
          have y3 : ((m : Int) == 0) = false := by rw [beq_eq_false_iff_ne]; omega
          have y4 : (0 : Int) < (m : Int) := by omega
          go_quiet (fail)
          clear x3 y3 y4
          go_wp2_with fail
          go_loopw [33, 34] (fun x y wr => y = .int .i64 0 ∧ ∃ a cp, x = .slice a k cp ∧ Hid (All wr [(.slice a k cp, zs), (.slice ma k mc, M)]) ∧ Hid (Below w.heap.size w wr)) (fun _ _ _ => 0)
          case atStart => exact ⟨rfl, _, _, rfl, All.two ((A17.out.same _).get 6 rfl) ((A17.out.same _).get 0 rfl), T17.out.trans ((bdN _ _).mono T17.out.size)⟩
          case round =>
            clear A17 T17
            obtain ⟨rfl, a, cp, rfl, B, T⟩ := hrel
            have B3 := B
            rw [← (show M = zs from PM.out)] at B3
            clear B
            go_wp2_with fail
            refine (a2Same_any _ _ M _ (B3.out.get 0 rfl) (B3.out.get 1 rfl) (by omega)).mono ?_
            rintro e wz ⟨rfl, hB⟩
            have T3 := Lib.hid (T.out.trans (hB.mono T.out.size))
            clear hB B3 T
            go_wp2_with fail
            go_ret
            exact ⟨rfl, T3.out⟩
        · subst x1
          have y2 : ((c : Int) == 0) = false := by rw [beq_eq_false_iff_ne]; omega
          have y3 : ((m : Int) == 0) = false := by rw [beq_eq_false_iff_ne]; omega
          have y4 : ((dl : Int) == 0) = false := by rw [beq_eq_false_iff_ne]; omega
          have y5 : (0 : Int) < (c : Int) := by omega
          have y6 : (0 : Int) < (m : Int) := by omega
          have y7 : (0 : Int) < (dl : Int) := by omega
          go_quiet (fail)
          clear x2 x3 x4 y2 y3 y4 y5 y6 y7
          go_wp2_with fail
          go_loopw [33, 34] (fun x y wr => ∃ j : Nat, j ≤ c ∧ y = .int .i64 j ∧ ∃ a cp, x = .slice a k cp ∧ Hid (All wr [(.slice a k cp, itP u j zs), (.slice ma k mc, M)]) ∧ Hid (Below w.heap.size w wr)) (fun _ y _ => c - (intOf y).toNat)
          case atStart => exact ⟨0, Nat.zero_le _, rfl, _, _, rfl, All.two ((A17.out.same _).get 6 rfl) ((A17.out.same _).get 0 rfl), T17.out.trans ((bdN _ _).mono T17.out.size)⟩
          case round =>
            clear A17 T17
            obtain ⟨j, hj, rfl, a, cp, rfl, B, T⟩ := hrel
            by_cases hlt2 : j < c
            · have hji : (j : Int) < (c : Int) := by omega
              obtain ⟨i1, tl, hi1, hl1, hs1⟩ := ST.out j hlt2
              have tj := IT.out j
              have hjl : (itP u j zs).length = k := tj.1
              have hp1 := thin_part tj i1 (by omega)
              rw [← hs1] at hp1
              obtain ⟨K, hK⟩ : ∃ K, K = itP u j zs := ⟨_, rfl⟩
              obtain ⟨K2, hK2⟩ : ∃ K2, K2 = itP u (j + 1) zs := ⟨_, rfl⟩
              rw [← hK] at B tj hjl hi1 hl1 hs1
              rw [← hK2] at hs1 hp1
              have E1 := Lib.hid fun wx hx => implLumps_t (.slice a k cp) K u wx hx (thin_ok tj) ht2.1 ht2.2
              have E2 := Lib.hid fun wx hx => specPart_t (.slice a k cp) K i1 k wx hx (thin_ok tj) (by rw [← hs1]; exact thin_ok hp1) hi1 hjl
              rw [hl1] at E1
              rw [← hs1] at E2
              obtain ⟨L1, hL1⟩ : ∃ L1, L1 = (i1 : Int) :: tl := ⟨_, rfl⟩
              rw [← hL1] at E1
              have hl0 : 0 < L1.length := by rw [hL1]; exact Nat.succ_pos _
              have h0 : L1.getD 0 0 = (i1 : Int) := by rw [hL1]; rfl
              have HK2 := Lib.hid hK2
              clear hL1 hl1 hs1 hK hK2 tj hp1
              go_wp2_with fail
              refine (E1.out _ (B.out.get 0 rfl)).mono ?_
              rintro e wx ⟨xa, xc, rfl, hi, hB⟩
              obtain ⟨l, hl⟩ : ∃ l, l = L1.length := ⟨_, rfl⟩
              obtain ⟨xb, xo, rfl⟩ := hi.addr hl0
              have cx : wx.cell? ⟨xb, xo, none⟩ = some (.int .i64 i1) := by
                have h := hi.at 0 hl0
                rw [h0] at h
                exact h
              rw [← hl]
              have hl2 : (1 : Int) ≤ (l : Int) := by omega
              have hl3 : (0 : Int) < (l : Int) := by omega
              have B1 := Lib.hid (B.out.below hB)
              have T1 := Lib.hid (T.out.trans (hB.mono T.out.size))
              clear hB hi B T h0 hl0 hl E1 hjl
              go_wp2_with fail
              refine (E2.out _ (B1.out.get 0 rfl)).mono ?_
              rintro e wy ⟨ya, yc, rfl, hi, hB⟩
              have B2 := Lib.hid (All.two hi ((B1.out.get 1 rfl).below hB))
              have T2 := Lib.hid (T1.out.trans (hB.mono T1.out.size))
              clear hB hi B1 T1 E2 cx
              rw [HK2.out] at B2
              clear HK2
              go_wp2_with fail
              go_roundw
              case rel => exact ⟨j + 1, by omega, by go_num, _, _, rfl, B2, T2⟩
              case measure => simp [intOf]; omega
            · have hjc : j = c := by omega
              have B3 := B
              rw [hjc, ← PM.out] at B3
              have hle : (c : Int) ≤ (j : Int) := by omega
              clear B hjc hlt2
              go_wp2_with fail
              refine (a2Same_any _ _ M _ (B3.out.get 0 rfl) (B3.out.get 1 rfl) (by omega)).mono ?_
              rintro e wz ⟨rfl, hB⟩
              have T3 := Lib.hid (T.out.trans (hB.mono T.out.size))
              clear hB B3 T
              go_wp2_with fail
              go_ret
              exact ⟨rfl, T3.out⟩
end Go.Proofs.Ytocpigibognfpaa
