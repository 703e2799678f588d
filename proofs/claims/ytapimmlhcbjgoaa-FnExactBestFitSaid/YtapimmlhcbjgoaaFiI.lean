/-
  No statement is proved here: orders served from the first lot, or from that with the least left, in the program; condition: at most 1048576 lots and orders.
-/
import Derived.Test.YtapimmlhcbjgoaaFiO
import Derived.Test.YtapimmlhcbjgoaaLfC
import Derived.Test.YtapimmlhcbjgoaaLfI
namespace Go.Proofs.Ytapimmlhcbjgoaa
open Go.ChangeShapes Go.WideShapes Go.ChangeAt Go.RowKit

theorem apartI {v1 v2 : Value} {B : Nat} (h1 : ∀ k, v1.ownBlock = some k → k < B) (h2 : ∀ k, v2.ownBlock = some k → B ≤ k) : v1.ownBlock = none ∨ v1.ownBlock ≠ v2.ownBlock := by
  cases e1 : v1.ownBlock with
  | none => exact .inl rfl
  | some a =>
    refine .inr fun e => ?_
    have := h1 a e1
    have := h2 a e.symm
    omega
theorem apartJ {v1 v2 : Value} {B : Nat} (h1 : ∀ k, v1.ownBlock = some k → k < B) (h2 : ∀ k, v2.ownBlock = some k → B ≤ k) : v2.ownBlock = none ∨ v2.ownBlock ≠ v1.ownBlock := by
  rcases apartI h1 h2 with h | h
  · cases e2 : v2.ownBlock with
    | none => exact .inl rfl
    | some b => exact .inr (by rw [h]; simp)
  · exact .inr fun e => h e.symm
theorem srt_all {K : Nat → Int} {P : List Nat} {n : Nat} {f : Nat → Bool} (h : Srt K P n) (hf : ∀ q, q < n → f (P.getD q 0) = false) (i : Nat) (hi : i < n) : f i = false := by
  obtain ⟨q, hq, rfl⟩ := List.mem_iff_getElem.1 ((h.2.2 i).2 hi)
  have := hf q (by rw [← h.2.1]; exact hq)
  rwa [List.getD, List.getElem?_eq_getElem hq] at this
theorem grown_boxI {w w' : World} (h : Below w.heap.size w w') (row : Option Nat) : w.grownBy w' row := ⟨h.os, h.tape, h.output, h.size, fun i hi _ => h.block i hi⟩

set_option maxRecDepth 100000 in
set_option maxHeartbeats 16000000 in
theorem fitA_any (va vo : Value) (T : List Lt) (os : List Od) (w : World) (ha : Lts w va T) (ho : Ods w vo os) (hn0 : T.length ≤ 1048576) (hn1 : os.length ≤ 1048576) :
    Calls Try.prog 25 #[va, vo, .func (Fn.func 26) #[] #[]] w fun e w' => ∃ u, e = .returned (.tuple #[u, .int .i64 (fitF false T os).2]) ∧ Own w' w.heap.size u (fitF false T os).1 ∧ Below w.heap.size w w' := by
  have HV := Lib.hid (implLts_any va T w ha hn0)
  have HH := Lib.hid (And.intro ha ho)
  cases h1 : isLts T with
  | false =>
    rw [h1] at HV
    rw [fitF_no1 h1]
    clear h1 ha ho
    go_enter Try.func25, Try.ntmps25
    go_wp2_with fail
    refine HV.out.mono ?_
    rintro e w1 ⟨rfl, hB⟩
    have T1 := Lib.hid hB
    clear hB
    go_wp2_with fail
    go_returns
    exact ⟨_, rfl, World.ownsRow_nil _ _ _ _, T1.out⟩
  | true =>
    rw [h1] at HV
    cases h2 : isOds os with
    | false =>
      rw [fitF_no2 h2]
      clear h1 ha ho
      go_enter Try.func25, Try.ntmps25
      go_wp2_with fail
      refine HV.out.mono ?_
      rintro e w1 ⟨rfl, hB⟩
      have T1 := Lib.hid hB
      have HO := Lib.hid (implOds_any vo os w1 (HH.out.2.below hB) hn1)
      rw [h2] at HO
      clear hB h2
      go_wp2_with fail
      refine HO.out.mono ?_
      rintro e w2 ⟨rfl, hB⟩
      have T2 := Lib.hid (T1.out.trans (hB.mono T1.out.size))
      clear hB
      go_wp2_with fail
      go_returns
      exact ⟨_, rfl, World.ownsRow_nil _ _ _ _, T2.out⟩
    | true =>
      rw [fitF_yes h1 h2]
      obtain ⟨hT1, hT6⟩ := isLts_of h1
      obtain ⟨hO1, hO7⟩ := isOds_of h2
      have HOO := Lib.hid (allOd_get hO1)
      have HKR := Lib.hid (fit_kept (b := false) (os := os) hT1 (fun k hk => by
        have h : (inB (atOd os k).1 0 9 && inB (atOd os k).2 1 5000) = true := HOO.out k hk
        rw [Bool.and_eq_true] at h
        exact (inB_of h.2).1))
      obtain ⟨ao, co, rfl⟩ := ho.len
      have HO := Lib.hid ho.at
      have HFN := Lib.hid fun k => fitTo_none (b := false) (T := T) (os := os) (k := k)
      have HFS := Lib.hid fun k q => fitTo_some (b := false) (T := T) (os := os) (k := k) (q := q)
      have HAG := Lib.hid fun k (hk : k < os.length) => ansTo_get false T os (N := os.length) (k := k) hk
      have HAA := Lib.hid fun k => show ansAt false T os k = atTo false (fitTo false T os k) (atOd os k) T.length from rfl
      have HLZ := Lib.hid (ansTo_length false T os os.length)
      obtain ⟨zs, hzs⟩ : ∃ zs, zs = ansTo false T os os.length := ⟨_, rfl⟩
      rw [← hzs] at HAG HLZ ⊢
      have HFI := Lib.hid fun k (hk : k < zs.length) => fill_step zs k hk
      have HFL := Lib.hid fun k (hk : k ≤ zs.length) => fill_length zs k hk
      have HFA := Lib.hid (fill_all zs)
      have HF0 := Lib.hid (fill_zero zs)
      obtain ⟨N, hlN⟩ : ∃ N, N = T.length := ⟨_, rfl⟩
      rw [← hlN] at HAA hT6
      have HLN := Lib.hid hlN
      clear hlN
      obtain ⟨m, hlm⟩ : ∃ m, m = os.length := ⟨_, rfl⟩
      obtain ⟨RA, hmk, hmo⟩ := make_zeros m (by omega)
      have HMO := Lib.hid hmo
      have HOV := Lib.hid fun wx (hx : Ods wx (.slice ao os.length co) os) => implOds_any (.slice ao os.length co) os wx hx hn1
      rw [← hlm] at HO HOO hO7 HKR HAG HLZ HOV HH hn1 ⊢
      rw [h2] at HOV
      rw [HLZ.out] at HFI HFL HFA HF0
      clear ha ho hT1 hO1 h1 h2 hzs hlm hmo
      go_enter Try.func25, Try.ntmps25
      go_wp2_with fail
      refine HV.out.mono ?_
      rintro e w1 ⟨rfl, hB⟩
      have T1 := Lib.hid hB
      have O1 := Lib.hid (HH.out.2.below hB)
      clear hB
      go_wp2_with fail
      refine (HOV.out _ O1.out).mono ?_
      rintro e w2 ⟨rfl, hB⟩
      have T2 := Lib.hid (T1.out.trans (hB.mono T1.out.size))
      clear hB O1
      have HCL := Lib.hid (cloneLt_any va T w2 (HH.out.1.below T2.out) hn0)
      go_wp2_with fail
      refine HCL.out.mono ?_
      rintro e w3 ⟨lv, rfl, own, hB⟩
      obtain ⟨la, lc, rfl⟩ : ∃ la lc, lv = .slice la N lc := by
        obtain ⟨la, lc, e⟩ := own.rel.len
        rw [← HLN.out] at e
        exact ⟨la, lc, e⟩
      obtain ⟨lv, hlv⟩ : ∃ lv, lv = Value.slice la N lc := ⟨_, rfl⟩
      rw [← hlv] at own ⊢
      have HLV := Lib.hid hlv
      clear hlv
      have HLB := Lib.hid (show ∀ k, lv.ownBlock = some k → w2.heap.size ≤ k ∧ k < w3.heap.size from own.lt)
      have T3 := Lib.hid (T2.out.trans (hB.mono T2.out.size))
      have L3 := Lib.hid (own.below ((Below.refl _ w3).alloc (Nat.le_refl _) (.cells RA 2)))
      have S3 : Hid (Own (w3.alloc (.cells RA 2)) w3.heap.size (.slice (some ⟨w3.heap.size, 0, none⟩) m m) (fill zs 0)) := Lib.hid (by rw [HF0.out]; exact HMO.out w3)
      have B3 := Lib.hid (T3.out.alloc T3.out.size (.cells RA 2))
      have Z23 := Lib.hid hB.size
      have Z02 := Lib.hid T2.out.size
      obtain ⟨D, hD⟩ : ∃ D, D = w3.heap.size := ⟨_, rfl⟩
      rw [← hD] at S3 HLB Z23
      have HDl : Hid (∀ k, lv.ownBlock = some k → k < D) := Lib.hid fun k hk => (HLB.out k hk).2
      have HBl : Hid (∀ k, lv.ownBlock = some k → w.heap.size ≤ k) := Lib.hid fun k hk => Nat.le_trans Z02.out (HLB.out k hk).1
      have HWD : Hid (w.heap.size ≤ D) := Lib.hid (Nat.le_trans Z02.out Z23.out)
      have ZD : Hid (D < (w3.alloc (.cells RA 2)).heap.size) := Lib.hid (by rw [hD]; simp)
      clear hB own T3 HV HOV T1 T2 HCL
      go_wp2_with fail
      rw [← hD]
      clear hD
      generalize w3.alloc (.cells RA 2) = w4 at *
      go_loopw [29] (fun i wr => ∃ j : Nat, i = .int .i64 j ∧ j ≤ m ∧ Hid (OwnLt wr w2.heap.size lv (fitTo false T os j)) ∧ Hid (Own wr D (.slice (some ⟨D, 0, none⟩) m m) (fill zs j)) ∧ Hid (Below w.heap.size w wr) ∧ Hid (D < wr.heap.size)) (fun i _ => m - (intOf i).toNat)
      case atStart => exact ⟨0, rfl, Nat.zero_le _, L3, S3, B3, ZD⟩
      case round =>
        clear L3 S3 B3 ZD
        obtain ⟨j, rfl, hj, hL, hS, hB, hZ⟩ := hrel
        by_cases hlj : j < m
        · have hjI : (j : Int) < (m : Int) := by omega
          have HK := Lib.hid (HKR.out j (by omega))
          have hF1 := HFN.out j
          have hF2 := HFS.out j
          have hAj := HAA.out j
          have hGj := HAG.out j hlj
          have HFj := Lib.hid (HFI.out j hlj)
          have HFLj := Lib.hid (HFL.out j hj)
          have HFLj1 := Lib.hid (HFL.out (j + 1) hlj)
          generalize hU2e : fitTo false T os (j + 1) = U2 at *
          have HU2E := Lib.hid hU2e
          clear hU2e
          generalize fitTo false T os j = U at *
          generalize ansAt false T os j = aj at *
          rw [hGj] at HFj
          obtain ⟨ob, ooff, rfl, hob, hoc⟩ := HO.out (by omega)
          have o0 := (hB.out.cell (p := ⟨ob, _, none⟩) hob).trans (hoc j hlj).1
          have o1 := (hB.out.cell (p := ⟨ob, _, none⟩) hob).trans (hoc j hlj).2
          have hok := HOO.out j hlj
          generalize atOd os j = o at *
          obtain ⟨so, og⟩ := o
          have hok' : (inB so 0 9 && inB og 1 5000) = true := hok
          rw [Bool.and_eq_true] at hok'
          have HKG := Lib.hid (inB_of hok'.2)
          simp only at o0 o1
          have HF1 := Lib.hid hF1
          have HF2 := Lib.hid hF2
          have HAJ := Lib.hid hAj
          have HUL : Hid (U.length = N) := Lib.hid (by rw [HK.out.1, ← HLN.out])
          clear hok hok' hoc hF1 hF2 hAj hGj
          have HE : Below wr.heap.size wr (wr.alloc (.cells #[.int .i8 so, .int .i16 og] 49)) := (Below.refl _ _).alloc (Nat.le_refl _) _
          obtain ⟨W1, hW1⟩ : ∃ W1, W1 = wr.alloc (.cells #[.int .i8 so, .int .i16 og] 49) := ⟨_, rfl⟩
          rw [← hW1] at HE
          have S1 := hS.out.below HE
          have L1 := hL.out.below HE
          have b0 : W1.cell? ⟨wr.heap.size, 0, none⟩ = some (.int .i8 so) := by rw [hW1]; simp [go_sem]
          have b1 : W1.cell? ⟨wr.heap.size, 1, none⟩ = some (.int .i16 og) := by rw [hW1]; simp [go_sem]
          have zb : wr.heap.size < W1.heap.size := by rw [hW1]; simp
          have T1 := hB.out.trans (HE.mono hB.out.size)
          have hrow := S1.row
          rw [HFLj.out] at hrow
          have c0 := (hrow.cellAt j (by omega)).trans (cellOf (by rw [HFLj.out]; exact hlj))
          have f0 : W1.frozen? ⟨D, j, none⟩ = false := hrow.frozenAt j
          have R2 := (hrow.stored j (Value.int .i64 (-1))).1
          rw [← List.map_set] at R2
          have G2 : W1.grownBy (W1.setCell ⟨D, j, none⟩ (Value.int .i64 (-1))) (some D) := grownBy_setI W1 D j _
          have L2 := L1.kept (row := some D) G2 (apartI HDl.out (v2 := .slice (some ⟨D, 0, none⟩) m m) (fun k hk => by have e : D = k := Option.some.inj hk; omega))
          have T2 := T1.grown G2 (by have := T1.size; omega) (fun k hk => by have e : D = k := Option.some.inj hk; have := HWD.out; omega)
          have hne : wr.heap.size ≠ D := by have := hZ.out; omega
          have b0' : (W1.setCell ⟨D, j, none⟩ (Value.int .i64 (-1))).cell? ⟨wr.heap.size, 0, none⟩ = some (.int .i8 so) := (World.cell?_of_block (w := W1) (a := ⟨wr.heap.size, 0, none⟩) (G2.block wr.heap.size zb (by simp; omega))).trans b0
          have b1' : (W1.setCell ⟨D, j, none⟩ (Value.int .i64 (-1))).cell? ⟨wr.heap.size, 1, none⟩ = some (.int .i16 og) := (World.cell?_of_block (w := W1) (a := ⟨wr.heap.size, 1, none⟩) (G2.block wr.heap.size zb (by simp; omega))).trans b1
          have zb2 := Nat.lt_of_lt_of_le zb G2.size
          have c0r : (wr.alloc (.cells #[.int .i8 so, .int .i16 og] 49)).cell? ⟨D, j, none⟩ = some (.int .i64 ((fill zs j).getD j 0)) := by rw [← hW1]; exact c0
          have f0r : (wr.alloc (.cells #[.int .i8 so, .int .i16 og] 49)).frozen? ⟨D, j, none⟩ = false := by rw [← hW1]; exact f0
          obtain ⟨W2, hW2⟩ : ∃ W2, W2 = W1.setCell ⟨D, j, none⟩ (Value.int .i64 (-1)) := ⟨_, rfl⟩
          rw [← hW2] at R2 L2 T2 b0' b1' zb2
          have HC := Lib.hid (orderedA_any lv U W2 L2.rel (by rw [HUL.out]; omega))
          have HR2 := Lib.hid R2
          have HL2 := Lib.hid L2
          have HT2 := Lib.hid T2
          have HB0 := Lib.hid b0'
          have HB1 := Lib.hid b1'
          have HZB := Lib.hid zb2
          have HZ2 := Lib.hid (show D < W2.heap.size by have := hZ.out; omega)
          have HW1 := Lib.hid hW1
          have HW2 := Lib.hid hW2
          clear hS hL S1 L1 HE b0 b1 zb T1 hrow R2 G2 L2 T2 b0' b1' zb2 hW1 hW2 hne c0 f0
          obtain ⟨bx, hbx⟩ : ∃ bx, bx = wr.heap.size := ⟨_, rfl⟩
          rw [← hbx] at HB0 HB1 HZB
          have HBX := Lib.hid hbx
          clear hbx
          go_wp2_with fail
          rw [← HW1.out, ← HBX.out, ← HW2.out]
          refine HC.out.mono ?_
          rintro e w5 ⟨r, P, rfl, hSrt, ownP, hB5⟩
          rw [HUL.out] at hSrt
          have hPl : (nm P).length = N := by rw [nm_length]; exact hSrt.2.1
          obtain ⟨ra, rc, rfl⟩ : ∃ ra rc, r = .slice ra N rc := by
            obtain ⟨ra, rc, e⟩ := ownP.ints.len
            rw [hPl] at e
            exact ⟨ra, rc, e⟩
          have HSR := Lib.hid hSrt
          have HP5 := Lib.hid ownP
          have HPl := Lib.hid hPl
          have L5 := Lib.hid (HL2.out.below hB5)
          have R5 : Hid (Own w5 D (.slice (some ⟨D, 0, none⟩) m m) ((fill zs j).set j (-1))) := Lib.hid (Own.below (by unfold Own; rw [List.length_set, HFLj.out]; exact HR2.out) hB5)
          have T5 := Lib.hid (HT2.out.trans (hB5.mono HT2.out.size))
          have x0 := Lib.hid (kept hB5 HZB.out HB0.out)
          have x1 := Lib.hid (kept hB5 HZB.out HB1.out)
          have ZX := Lib.hid (Nat.lt_of_lt_of_le HZB.out hB5.size)
          have Z5 := Lib.hid (Nat.lt_of_lt_of_le HZ2.out hB5.size)
          clear hSrt ownP hPl hB5 HR2 HL2 HT2 HB0 HB1 HC c0r f0r o0 o1 hB hZ
          go_wp2_with fail
          go_loopw [41] (fun i ws => ∃ k : Nat, k ≤ N ∧ i = .int .i64 k ∧ Hid (∀ q, q < k → canB (atLt U (P.getD q 0)) (so, og) = false) ∧ Hid (Below w5.heap.size w5 ws)) (fun i _ => N - (intOf i).toNat)
          case atStart => exact ⟨0, Nat.zero_le _, rfl, Lib.hid fun q hq => absurd hq (Nat.not_lt_zero q), Lib.hid (Below.refl _ _)⟩
          case round =>
            obtain ⟨k, hk, rfl, hN, hB⟩ := hrel
            have LS := L5.out.below hB.out
            have RS := R5.out.below hB.out
            have TS := Lib.hid (T5.out.trans (hB.out.mono T5.out.size))
            have ZS := Lib.hid (Nat.lt_of_lt_of_le Z5.out hB.out.size)
            by_cases hkN : k < N
            · have hkI : (k : Int) < (N : Int) := by omega
              have y0 := kept hB.out ZX.out x0.out
              have y1 := kept hB.out ZX.out x1.out
              have PS := HP5.out.below hB.out
              obtain ⟨gr, rfl, hgr, hgs⟩ := own_at PS HPl.out.symm (by omega)
              have prow := PS.row
              rw [HPl.out] at prow
              have cp := (prow.cellAt k (by omega)).trans (cellOf (by rw [HPl.out]; exact hkN))
              rw [nm_get] at cp
              have hxN := srt_lt HSR.out k hkN
              have HAT := Lib.hid fun hc => atTo_first (o := (so, og)) HSR.out hkN hc hN.out
              have HNX := Lib.hid (show canB (atLt U (P.getD k 0)) (so, og) = false → ∀ q, q < k + 1 → canB (atLt U (P.getD q 0)) (so, og) = false from fun h q hq => by
                by_cases e : q = k
                · rw [e]; exact h
                · exact hN.out q (by omega))
              clear prow PS hN
              generalize P.getD k 0 = x at *
              have hLV := HLV.out
              cases hc : canB (atLt U x) (so, og) with
              | true =>
                have HA1 := Lib.hid (HAJ.out.trans (HAT.out hc))
                have HU2 : Hid (U2 = U.set x ((atLt U x).1, (atLt U x).2 - og)) := Lib.hid (HF2.out x HA1.out (by rw [HUL.out]; exact hxN) hc)
                have HV := serve_yes la N lc U x so og w2.heap.size wr (by rw [← hLV]; exact LS) HUL.out.symm (by omega) hxN hc HKG.out (HK.out.2 x).2
                rw [← hLV, ← HU2.out] at HV
                have HVV := Lib.hid HV
                have HRS := Lib.hid RS
                clear HV hLV LS RS hc HAT HNX HF2
                go_wp2_with fail
                refine HVV.out.mono ?_
                rintro e w6 ⟨rfl, own, hg⟩
                have RK := HRS.out.kept hg (apartJ HDl.out (v2 := .slice (some ⟨D, 0, none⟩) m m) (fun k hk => by have e : D = k := Option.some.inj hk; omega))
                have T6 := TS.out.grown hg (by have := ZS.out; have := HWD.out; omega) HBl.out
                have rrow := RK.row
                rw [List.length_set, HFLj.out] at rrow
                have d0 := (rrow.cellAt j (by omega)).trans (cellOf (by rw [List.length_set, HFLj.out]; exact hlj))
                have e0 : w6.frozen? ⟨D, j, none⟩ = false := rrow.frozenAt j
                have S7 := (rrow.stored j (Value.int .i64 (x : Int))).1
                rw [← List.map_set, List.set_set, ← HA1.out, HFj.out] at S7
                have G7 : w6.grownBy (w6.setCell ⟨D, j, none⟩ (Value.int .i64 (x : Int))) (some D) := grownBy_setI w6 D j _
                have L7 := Lib.hid (own.kept (row := some D) G7 (apartI HDl.out (v2 := .slice (some ⟨D, 0, none⟩) m m) (fun k hk => by have e : D = k := Option.some.inj hk; omega)))
                have T7 := Lib.hid (T6.grown G7 (by have := T6.size; have := hg.size; have := ZS.out; have := HWD.out; omega) (fun k hk => by have e : D = k := Option.some.inj hk; have := HWD.out; omega))
                have HS7 : Hid (Own (w6.setCell ⟨D, j, none⟩ (Value.int .i64 (x : Int))) D (.slice (some ⟨D, 0, none⟩) m m) (fill zs (j + 1))) := Lib.hid (by unfold Own; rw [HFLj1.out, ← HA1.out]; exact S7)
                have Z7 := Lib.hid (show D < (w6.setCell ⟨D, j, none⟩ (Value.int .i64 (x : Int))).heap.size from Nat.lt_of_lt_of_le ZS.out (Nat.le_trans hg.size G7.size))
                clear own hg RK T6 rrow S7 G7 y0 y1 cp
                go_wp2_with fail
                go_roundw
                case rel => exact ⟨j + 1, by go_num, by omega, Lib.hid (by rw [HU2E.out]; exact L7.out), HS7, T7, Z7⟩
                case measure => simp [intOf]; omega
              | false =>
                have HV := serve_no la N lc U (x : Int) so og w2.heap.size wr (by rw [← hLV]; exact LS) HUL.out.symm (by omega) (.inr (.inr (by rw [Int.toNat_natCast]; exact hc)))
                rw [← hLV] at HV
                have HVV := Lib.hid HV
                have HNN := Lib.hid (HNX.out hc)
                clear HV hLV LS RS hc HAT HNX
                go_wp2_with fail
                refine HVV.out.mono ?_
                rintro e w6 ⟨rfl, hB6⟩
                have B6 := Lib.hid (hB.out.trans (hB6.mono hB.out.size))
                clear hB6
                go_wp2_with fail
                go_roundw
                case rel => exact ⟨k + 1, by omega, by go_num, HNN, B6⟩
                case measure => simp [intOf]; omega
            · obtain rfl : k = N := by omega
              have HA1 := Lib.hid (HAJ.out.trans (atTo_none (srt_all (f := fun i => canB (atLt U i) (so, og)) HSR.out hN.out)))
              have HU2 := Lib.hid (HF1.out HA1.out)
              have HS7 : Hid (Own wr D (.slice (some ⟨D, 0, none⟩) m m) (fill zs (j + 1))) := Lib.hid (by
                have e := HFj.out
                rw [HA1.out] at e
                rw [← e]
                exact RS)
              have HL7 := Lib.hid LS
              clear LS RS hN
              go_wp2_with fail
              go_roundw
              case rel => exact ⟨j + 1, by go_num, by omega, Lib.hid (by rw [HU2E.out, HU2.out]; exact HL7.out), HS7, TS, ZS⟩
              case measure => simp [intOf]; omega
        · obtain rfl : j = m := by omega
          have HSo := Lib.hid (show Own wr w.heap.size (.slice (some ⟨D, 0, none⟩) j j) zs from by
            have := hS.out
            rw [HFA.out] at this
            exact this.mono HWD.out)
          clear hL hS
          go_wp2_with fail
          go_returns
          exact ⟨_, rfl, HSo.out, hB.out⟩

set_option maxRecDepth 100000 in
set_option maxHeartbeats 16000000 in
theorem fitB_any (va vo : Value) (T : List Lt) (os : List Od) (w : World) (ha : Lts w va T) (ho : Ods w vo os) (hn0 : T.length ≤ 1048576) (hn1 : os.length ≤ 1048576) :
    Calls Try.prog 25 #[va, vo, .func (Fn.func 29) #[] #[]] w fun e w' => ∃ u, e = .returned (.tuple #[u, .int .i64 (fitF true T os).2]) ∧ Own w' w.heap.size u (fitF true T os).1 ∧ Below w.heap.size w w' := by
  have HV := Lib.hid (implLts_any va T w ha hn0)
  have HH := Lib.hid (And.intro ha ho)
  cases h1 : isLts T with
  | false =>
    rw [h1] at HV
    rw [fitF_no1 h1]
    clear h1 ha ho
    go_enter Try.func25, Try.ntmps25
    go_wp2_with fail
    refine HV.out.mono ?_
    rintro e w1 ⟨rfl, hB⟩
    have T1 := Lib.hid hB
    clear hB
    go_wp2_with fail
    go_returns
    exact ⟨_, rfl, World.ownsRow_nil _ _ _ _, T1.out⟩
  | true =>
    rw [h1] at HV
    cases h2 : isOds os with
    | false =>
      rw [fitF_no2 h2]
      clear h1 ha ho
      go_enter Try.func25, Try.ntmps25
      go_wp2_with fail
      refine HV.out.mono ?_
      rintro e w1 ⟨rfl, hB⟩
      have T1 := Lib.hid hB
      have HO := Lib.hid (implOds_any vo os w1 (HH.out.2.below hB) hn1)
      rw [h2] at HO
      clear hB h2
      go_wp2_with fail
      refine HO.out.mono ?_
      rintro e w2 ⟨rfl, hB⟩
      have T2 := Lib.hid (T1.out.trans (hB.mono T1.out.size))
      clear hB
      go_wp2_with fail
      go_returns
      exact ⟨_, rfl, World.ownsRow_nil _ _ _ _, T2.out⟩
    | true =>
      rw [fitF_yes h1 h2]
      obtain ⟨hT1, hT6⟩ := isLts_of h1
      obtain ⟨hO1, hO7⟩ := isOds_of h2
      have HOO := Lib.hid (allOd_get hO1)
      have HKR := Lib.hid (fit_kept (b := true) (os := os) hT1 (fun k hk => by
        have h : (inB (atOd os k).1 0 9 && inB (atOd os k).2 1 5000) = true := HOO.out k hk
        rw [Bool.and_eq_true] at h
        exact (inB_of h.2).1))
      obtain ⟨ao, co, rfl⟩ := ho.len
      have HO := Lib.hid ho.at
      have HFN := Lib.hid fun k => fitTo_none (b := true) (T := T) (os := os) (k := k)
      have HFS := Lib.hid fun k q => fitTo_some (b := true) (T := T) (os := os) (k := k) (q := q)
      have HAG := Lib.hid fun k (hk : k < os.length) => ansTo_get true T os (N := os.length) (k := k) hk
      have HAA := Lib.hid fun k => show ansAt true T os k = atTo true (fitTo true T os k) (atOd os k) T.length from rfl
      have HLZ := Lib.hid (ansTo_length true T os os.length)
      obtain ⟨zs, hzs⟩ : ∃ zs, zs = ansTo true T os os.length := ⟨_, rfl⟩
      rw [← hzs] at HAG HLZ ⊢
      have HFI := Lib.hid fun k (hk : k < zs.length) => fill_step zs k hk
      have HFL := Lib.hid fun k (hk : k ≤ zs.length) => fill_length zs k hk
      have HFA := Lib.hid (fill_all zs)
      have HF0 := Lib.hid (fill_zero zs)
      obtain ⟨N, hlN⟩ : ∃ N, N = T.length := ⟨_, rfl⟩
      rw [← hlN] at HAA hT6
      have HLN := Lib.hid hlN
      clear hlN
      obtain ⟨m, hlm⟩ : ∃ m, m = os.length := ⟨_, rfl⟩
      obtain ⟨RA, hmk, hmo⟩ := make_zeros m (by omega)
      have HMO := Lib.hid hmo
      have HOV := Lib.hid fun wx (hx : Ods wx (.slice ao os.length co) os) => implOds_any (.slice ao os.length co) os wx hx hn1
      rw [← hlm] at HO HOO hO7 HKR HAG HLZ HOV HH hn1 ⊢
      rw [h2] at HOV
      rw [HLZ.out] at HFI HFL HFA HF0
      clear ha ho hT1 hO1 h1 h2 hzs hlm hmo
      go_enter Try.func25, Try.ntmps25
      go_wp2_with fail
      refine HV.out.mono ?_
      rintro e w1 ⟨rfl, hB⟩
      have T1 := Lib.hid hB
      have O1 := Lib.hid (HH.out.2.below hB)
      clear hB
      go_wp2_with fail
      refine (HOV.out _ O1.out).mono ?_
      rintro e w2 ⟨rfl, hB⟩
      have T2 := Lib.hid (T1.out.trans (hB.mono T1.out.size))
      clear hB O1
      have HCL := Lib.hid (cloneLt_any va T w2 (HH.out.1.below T2.out) hn0)
      go_wp2_with fail
      refine HCL.out.mono ?_
      rintro e w3 ⟨lv, rfl, own, hB⟩
      obtain ⟨la, lc, rfl⟩ : ∃ la lc, lv = .slice la N lc := by
        obtain ⟨la, lc, e⟩ := own.rel.len
        rw [← HLN.out] at e
        exact ⟨la, lc, e⟩
      obtain ⟨lv, hlv⟩ : ∃ lv, lv = Value.slice la N lc := ⟨_, rfl⟩
      rw [← hlv] at own ⊢
      have HLV := Lib.hid hlv
      clear hlv
      have HLB := Lib.hid (show ∀ k, lv.ownBlock = some k → w2.heap.size ≤ k ∧ k < w3.heap.size from own.lt)
      have T3 := Lib.hid (T2.out.trans (hB.mono T2.out.size))
      have L3 := Lib.hid (own.below ((Below.refl _ w3).alloc (Nat.le_refl _) (.cells RA 2)))
      have S3 : Hid (Own (w3.alloc (.cells RA 2)) w3.heap.size (.slice (some ⟨w3.heap.size, 0, none⟩) m m) (fill zs 0)) := Lib.hid (by rw [HF0.out]; exact HMO.out w3)
      have B3 := Lib.hid (T3.out.alloc T3.out.size (.cells RA 2))
      have Z23 := Lib.hid hB.size
      have Z02 := Lib.hid T2.out.size
      obtain ⟨D, hD⟩ : ∃ D, D = w3.heap.size := ⟨_, rfl⟩
      rw [← hD] at S3 HLB Z23
      have HDl : Hid (∀ k, lv.ownBlock = some k → k < D) := Lib.hid fun k hk => (HLB.out k hk).2
      have HBl : Hid (∀ k, lv.ownBlock = some k → w.heap.size ≤ k) := Lib.hid fun k hk => Nat.le_trans Z02.out (HLB.out k hk).1
      have HWD : Hid (w.heap.size ≤ D) := Lib.hid (Nat.le_trans Z02.out Z23.out)
      have ZD : Hid (D < (w3.alloc (.cells RA 2)).heap.size) := Lib.hid (by rw [hD]; simp)
      clear hB own T3 HV HOV T1 T2 HCL
      go_wp2_with fail
      rw [← hD]
      clear hD
      generalize w3.alloc (.cells RA 2) = w4 at *
      go_loopw [29] (fun i wr => ∃ j : Nat, i = .int .i64 j ∧ j ≤ m ∧ Hid (OwnLt wr w2.heap.size lv (fitTo true T os j)) ∧ Hid (Own wr D (.slice (some ⟨D, 0, none⟩) m m) (fill zs j)) ∧ Hid (Below w.heap.size w wr) ∧ Hid (D < wr.heap.size)) (fun i _ => m - (intOf i).toNat)
      case atStart => exact ⟨0, rfl, Nat.zero_le _, L3, S3, B3, ZD⟩
      case round =>
        clear L3 S3 B3 ZD
        obtain ⟨j, rfl, hj, hL, hS, hB, hZ⟩ := hrel
        by_cases hlj : j < m
        · have hjI : (j : Int) < (m : Int) := by omega
          have HK := Lib.hid (HKR.out j (by omega))
          have hF1 := HFN.out j
          have hF2 := HFS.out j
          have hAj := HAA.out j
          have hGj := HAG.out j hlj
          have HFj := Lib.hid (HFI.out j hlj)
          have HFLj := Lib.hid (HFL.out j hj)
          have HFLj1 := Lib.hid (HFL.out (j + 1) hlj)
          generalize hU2e : fitTo true T os (j + 1) = U2 at *
          have HU2E := Lib.hid hU2e
          clear hU2e
          generalize fitTo true T os j = U at *
          generalize ansAt true T os j = aj at *
          rw [hGj] at HFj
          obtain ⟨ob, ooff, rfl, hob, hoc⟩ := HO.out (by omega)
          have o0 := (hB.out.cell (p := ⟨ob, _, none⟩) hob).trans (hoc j hlj).1
          have o1 := (hB.out.cell (p := ⟨ob, _, none⟩) hob).trans (hoc j hlj).2
          have hok := HOO.out j hlj
          generalize atOd os j = o at *
          obtain ⟨so, og⟩ := o
          have hok' : (inB so 0 9 && inB og 1 5000) = true := hok
          rw [Bool.and_eq_true] at hok'
          have HKG := Lib.hid (inB_of hok'.2)
          simp only at o0 o1
          have HF1 := Lib.hid hF1
          have HF2 := Lib.hid hF2
          have HAJ := Lib.hid hAj
          have HUL : Hid (U.length = N) := Lib.hid (by rw [HK.out.1, ← HLN.out])
          clear hok hok' hoc hF1 hF2 hAj hGj
          have HE : Below wr.heap.size wr (wr.alloc (.cells #[.int .i8 so, .int .i16 og] 49)) := (Below.refl _ _).alloc (Nat.le_refl _) _
          obtain ⟨W1, hW1⟩ : ∃ W1, W1 = wr.alloc (.cells #[.int .i8 so, .int .i16 og] 49) := ⟨_, rfl⟩
          rw [← hW1] at HE
          have S1 := hS.out.below HE
          have L1 := hL.out.below HE
          have b0 : W1.cell? ⟨wr.heap.size, 0, none⟩ = some (.int .i8 so) := by rw [hW1]; simp [go_sem]
          have b1 : W1.cell? ⟨wr.heap.size, 1, none⟩ = some (.int .i16 og) := by rw [hW1]; simp [go_sem]
          have zb : wr.heap.size < W1.heap.size := by rw [hW1]; simp
          have T1 := hB.out.trans (HE.mono hB.out.size)
          have hrow := S1.row
          rw [HFLj.out] at hrow
          have c0 := (hrow.cellAt j (by omega)).trans (cellOf (by rw [HFLj.out]; exact hlj))
          have f0 : W1.frozen? ⟨D, j, none⟩ = false := hrow.frozenAt j
          have R2 := (hrow.stored j (Value.int .i64 (-1))).1
          rw [← List.map_set] at R2
          have G2 : W1.grownBy (W1.setCell ⟨D, j, none⟩ (Value.int .i64 (-1))) (some D) := grownBy_setI W1 D j _
          have L2 := L1.kept (row := some D) G2 (apartI HDl.out (v2 := .slice (some ⟨D, 0, none⟩) m m) (fun k hk => by have e : D = k := Option.some.inj hk; omega))
          have T2 := T1.grown G2 (by have := T1.size; omega) (fun k hk => by have e : D = k := Option.some.inj hk; have := HWD.out; omega)
          have hne : wr.heap.size ≠ D := by have := hZ.out; omega
          have b0' : (W1.setCell ⟨D, j, none⟩ (Value.int .i64 (-1))).cell? ⟨wr.heap.size, 0, none⟩ = some (.int .i8 so) := (World.cell?_of_block (w := W1) (a := ⟨wr.heap.size, 0, none⟩) (G2.block wr.heap.size zb (by simp; omega))).trans b0
          have b1' : (W1.setCell ⟨D, j, none⟩ (Value.int .i64 (-1))).cell? ⟨wr.heap.size, 1, none⟩ = some (.int .i16 og) := (World.cell?_of_block (w := W1) (a := ⟨wr.heap.size, 1, none⟩) (G2.block wr.heap.size zb (by simp; omega))).trans b1
          have zb2 := Nat.lt_of_lt_of_le zb G2.size
          have c0r : (wr.alloc (.cells #[.int .i8 so, .int .i16 og] 49)).cell? ⟨D, j, none⟩ = some (.int .i64 ((fill zs j).getD j 0)) := by rw [← hW1]; exact c0
          have f0r : (wr.alloc (.cells #[.int .i8 so, .int .i16 og] 49)).frozen? ⟨D, j, none⟩ = false := by rw [← hW1]; exact f0
          obtain ⟨W2, hW2⟩ : ∃ W2, W2 = W1.setCell ⟨D, j, none⟩ (Value.int .i64 (-1)) := ⟨_, rfl⟩
          rw [← hW2] at R2 L2 T2 b0' b1' zb2
          have HC := Lib.hid (orderedB_any lv U W2 L2.rel (by rw [HUL.out]; omega))
          have HR2 := Lib.hid R2
          have HL2 := Lib.hid L2
          have HT2 := Lib.hid T2
          have HB0 := Lib.hid b0'
          have HB1 := Lib.hid b1'
          have HZB := Lib.hid zb2
          have HZ2 := Lib.hid (show D < W2.heap.size by have := hZ.out; omega)
          have HW1 := Lib.hid hW1
          have HW2 := Lib.hid hW2
          clear hS hL S1 L1 HE b0 b1 zb T1 hrow R2 G2 L2 T2 b0' b1' zb2 hW1 hW2 hne c0 f0
          obtain ⟨bx, hbx⟩ : ∃ bx, bx = wr.heap.size := ⟨_, rfl⟩
          rw [← hbx] at HB0 HB1 HZB
          have HBX := Lib.hid hbx
          clear hbx
          go_wp2_with fail
          rw [← HW1.out, ← HBX.out, ← HW2.out]
          refine HC.out.mono ?_
          rintro e w5 ⟨r, P, rfl, hSrt, ownP, hB5⟩
          rw [HUL.out] at hSrt
          have hPl : (nm P).length = N := by rw [nm_length]; exact hSrt.2.1
          obtain ⟨ra, rc, rfl⟩ : ∃ ra rc, r = .slice ra N rc := by
            obtain ⟨ra, rc, e⟩ := ownP.ints.len
            rw [hPl] at e
            exact ⟨ra, rc, e⟩
          have HSR := Lib.hid hSrt
          have HP5 := Lib.hid ownP
          have HPl := Lib.hid hPl
          have L5 := Lib.hid (HL2.out.below hB5)
          have R5 : Hid (Own w5 D (.slice (some ⟨D, 0, none⟩) m m) ((fill zs j).set j (-1))) := Lib.hid (Own.below (by unfold Own; rw [List.length_set, HFLj.out]; exact HR2.out) hB5)
          have T5 := Lib.hid (HT2.out.trans (hB5.mono HT2.out.size))
          have x0 := Lib.hid (kept hB5 HZB.out HB0.out)
          have x1 := Lib.hid (kept hB5 HZB.out HB1.out)
          have ZX := Lib.hid (Nat.lt_of_lt_of_le HZB.out hB5.size)
          have Z5 := Lib.hid (Nat.lt_of_lt_of_le HZ2.out hB5.size)
          clear hSrt ownP hPl hB5 HR2 HL2 HT2 HB0 HB1 HC c0r f0r o0 o1 hB hZ
          go_wp2_with fail
          go_loopw [41] (fun i ws => ∃ k : Nat, k ≤ N ∧ i = .int .i64 k ∧ Hid (∀ q, q < k → canB (atLt U (P.getD q 0)) (so, og) = false) ∧ Hid (Below w5.heap.size w5 ws)) (fun i _ => N - (intOf i).toNat)
          case atStart => exact ⟨0, Nat.zero_le _, rfl, Lib.hid fun q hq => absurd hq (Nat.not_lt_zero q), Lib.hid (Below.refl _ _)⟩
          case round =>
            obtain ⟨k, hk, rfl, hN, hB⟩ := hrel
            have LS := L5.out.below hB.out
            have RS := R5.out.below hB.out
            have TS := Lib.hid (T5.out.trans (hB.out.mono T5.out.size))
            have ZS := Lib.hid (Nat.lt_of_lt_of_le Z5.out hB.out.size)
            by_cases hkN : k < N
            · have hkI : (k : Int) < (N : Int) := by omega
              have y0 := kept hB.out ZX.out x0.out
              have y1 := kept hB.out ZX.out x1.out
              have PS := HP5.out.below hB.out
              obtain ⟨gr, rfl, hgr, hgs⟩ := own_at PS HPl.out.symm (by omega)
              have prow := PS.row
              rw [HPl.out] at prow
              have cp := (prow.cellAt k (by omega)).trans (cellOf (by rw [HPl.out]; exact hkN))
              rw [nm_get] at cp
              have hxN := srt_lt HSR.out k hkN
              have HAT := Lib.hid fun hc => atTo_first (o := (so, og)) HSR.out hkN hc hN.out
              have HNX := Lib.hid (show canB (atLt U (P.getD k 0)) (so, og) = false → ∀ q, q < k + 1 → canB (atLt U (P.getD q 0)) (so, og) = false from fun h q hq => by
                by_cases e : q = k
                · rw [e]; exact h
                · exact hN.out q (by omega))
              clear prow PS hN
              generalize P.getD k 0 = x at *
              have hLV := HLV.out
              cases hc : canB (atLt U x) (so, og) with
              | true =>
                have HA1 := Lib.hid (HAJ.out.trans (HAT.out hc))
                have HU2 : Hid (U2 = U.set x ((atLt U x).1, (atLt U x).2 - og)) := Lib.hid (HF2.out x HA1.out (by rw [HUL.out]; exact hxN) hc)
                have HV := serve_yes la N lc U x so og w2.heap.size wr (by rw [← hLV]; exact LS) HUL.out.symm (by omega) hxN hc HKG.out (HK.out.2 x).2
                rw [← hLV, ← HU2.out] at HV
                have HVV := Lib.hid HV
                have HRS := Lib.hid RS
                clear HV hLV LS RS hc HAT HNX HF2
                go_wp2_with fail
                refine HVV.out.mono ?_
                rintro e w6 ⟨rfl, own, hg⟩
                have RK := HRS.out.kept hg (apartJ HDl.out (v2 := .slice (some ⟨D, 0, none⟩) m m) (fun k hk => by have e : D = k := Option.some.inj hk; omega))
                have T6 := TS.out.grown hg (by have := ZS.out; have := HWD.out; omega) HBl.out
                have rrow := RK.row
                rw [List.length_set, HFLj.out] at rrow
                have d0 := (rrow.cellAt j (by omega)).trans (cellOf (by rw [List.length_set, HFLj.out]; exact hlj))
                have e0 : w6.frozen? ⟨D, j, none⟩ = false := rrow.frozenAt j
                have S7 := (rrow.stored j (Value.int .i64 (x : Int))).1
                rw [← List.map_set, List.set_set, ← HA1.out, HFj.out] at S7
                have G7 : w6.grownBy (w6.setCell ⟨D, j, none⟩ (Value.int .i64 (x : Int))) (some D) := grownBy_setI w6 D j _
                have L7 := Lib.hid (own.kept (row := some D) G7 (apartI HDl.out (v2 := .slice (some ⟨D, 0, none⟩) m m) (fun k hk => by have e : D = k := Option.some.inj hk; omega)))
                have T7 := Lib.hid (T6.grown G7 (by have := T6.size; have := hg.size; have := ZS.out; have := HWD.out; omega) (fun k hk => by have e : D = k := Option.some.inj hk; have := HWD.out; omega))
                have HS7 : Hid (Own (w6.setCell ⟨D, j, none⟩ (Value.int .i64 (x : Int))) D (.slice (some ⟨D, 0, none⟩) m m) (fill zs (j + 1))) := Lib.hid (by unfold Own; rw [HFLj1.out, ← HA1.out]; exact S7)
                have Z7 := Lib.hid (show D < (w6.setCell ⟨D, j, none⟩ (Value.int .i64 (x : Int))).heap.size from Nat.lt_of_lt_of_le ZS.out (Nat.le_trans hg.size G7.size))
                clear own hg RK T6 rrow S7 G7 y0 y1 cp
                go_wp2_with fail
                go_roundw
                case rel => exact ⟨j + 1, by go_num, by omega, Lib.hid (by rw [HU2E.out]; exact L7.out), HS7, T7, Z7⟩
                case measure => simp [intOf]; omega
              | false =>
                have HV := serve_no la N lc U (x : Int) so og w2.heap.size wr (by rw [← hLV]; exact LS) HUL.out.symm (by omega) (.inr (.inr (by rw [Int.toNat_natCast]; exact hc)))
                rw [← hLV] at HV
                have HVV := Lib.hid HV
                have HNN := Lib.hid (HNX.out hc)
                clear HV hLV LS RS hc HAT HNX
                go_wp2_with fail
                refine HVV.out.mono ?_
                rintro e w6 ⟨rfl, hB6⟩
                have B6 := Lib.hid (hB.out.trans (hB6.mono hB.out.size))
                clear hB6
                go_wp2_with fail
                go_roundw
                case rel => exact ⟨k + 1, by omega, by go_num, HNN, B6⟩
                case measure => simp [intOf]; omega
            · obtain rfl : k = N := by omega
              have HA1 := Lib.hid (HAJ.out.trans (atTo_none (srt_all (f := fun i => canB (atLt U i) (so, og)) HSR.out hN.out)))
              have HU2 := Lib.hid (HF1.out HA1.out)
              have HS7 : Hid (Own wr D (.slice (some ⟨D, 0, none⟩) m m) (fill zs (j + 1))) := Lib.hid (by
                have e := HFj.out
                rw [HA1.out] at e
                rw [← e]
                exact RS)
              have HL7 := Lib.hid LS
              clear LS RS hN
              go_wp2_with fail
              go_roundw
              case rel => exact ⟨j + 1, by go_num, by omega, Lib.hid (by rw [HU2E.out, HU2.out]; exact HL7.out), HS7, TS, ZS⟩
              case measure => simp [intOf]; omega
        · obtain rfl : j = m := by omega
          have HSo := Lib.hid (show Own wr w.heap.size (.slice (some ⟨D, 0, none⟩) j j) zs from by
            have := hS.out
            rw [HFA.out] at this
            exact this.mono HWD.out)
          clear hL hS
          go_wp2_with fail
          go_returns
          exact ⟨_, rfl, HSo.out, hB.out⟩

end Go.Proofs.Ytapimmlhcbjgoaa
