/-
  No statement is proved here: what LeftOn answers, as the document's own text tells it; condition: at most 1048576 strands and numbers.
-/
import Derived.Test.YtaanjjmochfhgaaDoorLeftM
namespace Go.Proofs.YtaanjjmochfhgaaDoor
open Go.ChangeShapes Go.WideShapes Go.ChangeAt Go.RowKit

theorem one_i (x : Int) : ∀ u ∈ [Value.int .i64 x], u.oneCell' = true := by intro u hu; simp at hu; subst hu; rfl
/-- A list's length, of a value. -/
def lenW : Value → Nat
  | .slice _ n _ => n
  | _ => 0

set_option maxRecDepth 100000 in
set_option maxHeartbeats 8000000 in
theorem specLeft_any (hold : Int) (v u : Value) (ss : List Sn) (ns : List Int) (w : World) (h : Strands w v ss) (hn : ss.length ≤ 1048576) (hN : Ints w u ns) (hnn : ns.length ≤ 1048576) :
    Calls Tryd.prog 17 #[.int .i64 hold, v, u] w fun e w' => ∃ r, e = .returned (.tuple #[r, .int .i64 (leftF hold ss ns).2]) ∧ Own w' w.heap.size r (leftF hold ss ns).1 ∧ Below w.heap.size w w' := by
  obtain ⟨i0, hi, hz0, hz1, hz2⟩ := info_parts info64
  have HH := Lib.hid fun wx => l04Hold_any hold wx
  have HA := Lib.hid fun wx hx => l04Strands_any v ss wx hx hn
  have HV := Lib.hid h
  have HN := Lib.hid hN
  have hst : ∀ j, IsSt (sat ss j) := h.1
  have E0 := Lib.hid (show Own (w.alloc (.cells #[] 2)) w.heap.size (.slice (some ⟨w.heap.size, 0, none⟩) 0 0) [] from World.ownsRow_made (size := 1) (e := 2) w #[] 0 (Nat.le_refl _) (by decide) rfl)
  have B0 := Lib.hid ((Below.refl w.heap.size w).alloc (Nat.le_refl _) (.cells #[] 2))
  obtain ⟨a0, c0, rfl⟩ := h.len
  obtain ⟨a1, c1, rfl⟩ : ∃ a c, u = .slice a ns.length c := by
    rcases hN with ⟨a, cap, rfl, rfl⟩ | ⟨b, off, cap, rfl, _⟩
    · exact ⟨_, _, rfl⟩
    · exact ⟨_, _, rfl⟩
  clear hN h
  cases hal : allS ss with
  | false =>
    rw [leftF_bad (ask63_1 hal) (by decide)]
    rw [hal] at HA
    clear hal hst
    go_enter Tryd.func17, Tryd.ntmps17
    go_wp2_with fail
    refine (HA.out _ HV.out).mono ?_
    rintro e w' ⟨rfl, rfl⟩
    go_wp2
    go_ret2
    exact ⟨_, rfl, E0.out, B0.out⟩
  | true =>
    rw [hal] at HA
    by_cases h8 : ss.length ≤ 8
    · have h8i : ¬ (8 : Int) < (ss.length : Int) := by omega
      cases hin : inB hold 1 2000 with
      | false =>
        rw [leftF_bad (c := 2) (by rw [hin]; exact ask63_f hal h8) (by decide)]
        rw [hin] at HH
        clear hal hst hin
        go_enter Tryd.func17, Tryd.ntmps17
        go_wp2_with fail
        refine (HA.out _ HV.out).mono ?_
        rintro e w' ⟨rfl, rfl⟩
        go_wp2_with fail
        refine (HH.out _).mono ?_
        rintro e w' ⟨rfl, rfl⟩
        go_wp2
        go_ret2
        exact ⟨_, rfl, E0.out, B0.out⟩
      | true =>
        have hask : askS m63 ss (inB hold 1 2000) = 0 := by rw [hin]; exact ask63_f hal h8
        have hh := inB_of hin
        rw [hin] at HH
        by_cases hl : ns.length = ss.length
        · have hne : ((ns.length : Int) != (ss.length : Int)) = false := by simp; omega
          have HT := Lib.hid fun wx hx => told_any (.slice a1 ns.length c1) ns wx hx hnn
          rw [show toldF ns = if upTo ns 7 = true then 0 else 2 from if_pos (by omega)] at HT
          cases hu : upTo ns 7 with
          | false =>
            have hwf : windB m63 hold ss ns = false := by unfold windB; rw [hu]; simp
            rw [leftF_no hask hwf]
            rw [show (if upTo ns 7 = true then (0 : Int) else 2) = 2 by rw [hu]; rfl] at HT
            clear hal hst hin hh hask hwf hu hl
            go_enter Tryd.func17, Tryd.ntmps17
            go_wp2_with fail
            refine (HA.out _ HV.out).mono ?_
            rintro e w' ⟨rfl, rfl⟩
            go_wp2_with fail
            refine (HH.out _).mono ?_
            rintro e w' ⟨rfl, rfl⟩
            go_wp2_with fail
            refine (HT.out _ HN.out).mono ?_
            rintro e w' ⟨rfl, rfl⟩
            go_wp2
            go_ret2
            exact ⟨_, rfl, E0.out, B0.out⟩
          | true =>
            rw [show (if upTo ns 7 = true then (0 : Int) else 2) = 0 by rw [hu]; rfl] at HT
            have hwr : windB m63 hold ss ns = rightB m63 hold ss ns := by unfold windB; rw [hu, decide_eq_true hl]; rfl
            have h63 := wind63 (hold := hold) hal hst (by omega) hl hu
            rw [← hwr] at h63
            have J0 := Lib.hid (getD_pos hu)
            have JM := Lib.hid (mxS_le hu hl)
            have JU := Lib.hid (upTo_get hu)
            have JS := Lib.hid fun r k (hk : k < ss.length) (hr : ns.getD k 0 = ((r : Nat) : Int)) q => leftR_set (hold := hold) (q := q) hl hk hr
            have JB := Lib.hid fun (r : Int) k (hk : k ≤ ss.length) => sumS_bd (subS_all r hl hal) (cntS ns r k) (subS_le r hl k hk)
            have JC := Lib.hid fun (r : Int) k (hk : k ≤ ss.length) => Nat.le_trans (subS_le r hl k hk) (subS_short r hl h8)
            have JK := Lib.hid fun k hk => okS_at (allS_get hal k hk)
            have JY := Lib.hid fun (hf : ∀ r, r < mxS ns ss.length → 0 ≤ hold - sumS (subS ss ns (r : Int)) (cntS ns (r : Int) ss.length)) => leftF_yes hask (h63.2 hf)
            have JN := Lib.hid fun r (hr : r < mxS ns ss.length) (hf : hold - sumS (subS ss ns (r : Int)) (cntS ns (r : Int) ss.length) < 0) => leftF_no (hold := hold) (ss := ss) (ns := ns) hask (by
              cases hw : windB m63 hold ss ns with
              | false => rfl
              | true => have := h63.1 hw r hr; omega)
            have HL := Lib.hid hl
            have hh2 := Lib.hid hh
            have hne2 := hne
            rw [hl] at HT hne2 HN
            have hnl : ns.length = ss.length := hl
            rw [hl]
            clear hal hst hin hask h63 hwr hu hh hne
            obtain ⟨n, hln⟩ : ∃ n, n = ss.length := ⟨_, rfl⟩
            have HLN := Lib.hid hln
            rw [← hln] at HT HV HN HA JY JN JM JS JB JC JK h8 h8i hne2 ⊢
            clear hln hl hnl hn hnn
            obtain ⟨F, hF⟩ : ∃ F, F = leftF hold ss ns := ⟨_, rfl⟩
            rw [← hF] at JY JN ⊢
            clear hF
            go_enter Tryd.func17, Tryd.ntmps17
            go_wp2_with fail
            refine (HA.out _ HV.out).mono ?_
            rintro e w' ⟨rfl, rfl⟩
            go_wp2_with fail
            refine (HH.out _).mono ?_
            rintro e w' ⟨rfl, rfl⟩
            go_wp2_with fail
            refine (HT.out _ HN.out).mono ?_
            rintro e w' ⟨rfl, rfl⟩
            go_wp2_with fail
            clear hne2 HT HA HH
            go_loopw [8, 9] (fun v i wr => ∃ (k : Nat) (a : Option Addr) (cap : Nat), k ≤ n ∧ i = .int .i64 k ∧ v = .slice a (mxS ns k) cap ∧ Hid (Below w.heap.size w wr) ∧ Hid (wr.ownsRow w.heap.size 2 1 (.slice a (mxS ns k) cap) (mxS ns k) ((leftR hold ss ns k (mxS ns k)).map (Value.int .i64)))) (fun _ i _ => n - (intOf i).toNat)
            case atStart => exact ⟨0, _, _, Nat.zero_le _, rfl, rfl, B0, Lib.hid E0.out⟩
            case round =>
              clear E0 B0
              obtain ⟨k, a, cap, hk, rfl, rfl, hE, hO⟩ := hrel
              by_cases hlt : k < n
              · have hki : (k : Int) < (n : Int) := by omega
                have hkl : k < ss.length := by rw [← HLN.out]; exact hlt
                have HKL := Lib.hid hkl
                obtain ⟨r, hr⟩ : ∃ r : Nat, ns.getD k 0 = (r : Int) := ⟨(ns.getD k 0).toNat, by have := J0.out k; omega⟩
                have hr7 : r ≤ 7 := by have := (JU.out k (by rw [HL.out]; exact hkl)).2; omega
                have hmx : mxS ns (k + 1) = max (mxS ns k) (r + 1) := by rw [mxS, hr, Int.toNat_natCast]
                have hM8 : mxS ns k ≤ 8 := JM.out k (by omega)
                obtain ⟨b1, o1, d1, hv1, hb1, hc1⟩ := (HV.out).pos (by rw [← HLN.out]; omega)
                obtain ⟨rfl, rfl⟩ : a0 = some ⟨b1, o1, none⟩ ∧ c0 = d1 := by simp at hv1; exact ⟨hv1.1, hv1.2.2⟩
                obtain ⟨b2, o2, d2, hv2, hb2, hc2⟩ : ∃ b off cap, Value.slice a1 n c1 = .slice (some ⟨b, off, none⟩) n cap ∧ b < w.heap.size ∧ ∀ j, j < n → w.cell? ⟨b, off + j, none⟩ = some (.int .i64 (ns.getD j 0)) := by
                  rcases HN.out with ⟨a, cap, h1, h2⟩ | ⟨b, off, cap, h1, _, hb, h3⟩
                  · have := HL.out; rw [h2, ← HLN.out] at this; simp at this; omega
                  · refine ⟨b, off, cap, ?_, hb, fun j hj => h3 j (by rw [HL.out, ← HLN.out]; exact hj)⟩
                    have e := HL.out
                    rw [← HLN.out] at e
                    rw [e] at h1
                    exact h1
                obtain ⟨rfl, rfl⟩ : a1 = some ⟨b2, o2, none⟩ ∧ c1 = d2 := by simp at hv2; exact ⟨hv2.1, hv2.2⟩
                have pz0 := Lib.hid (by have := hc2 k hlt; rw [hr] at this; exact this)
                have P1 := Lib.hid (hc1 k hkl).1
                have HB1 := Lib.hid hb1
                have HB2 := Lib.hid hb2
                have HMX := Lib.hid hmx
                have HR := Lib.hid hr
                have HE := Lib.hid hE.out
                have HO := Lib.hid hO.out
                obtain ⟨M, hM⟩ : ∃ M, M = mxS ns k := ⟨_, rfl⟩
                have HMM := Lib.hid hM
                rw [← hM] at hM8 HMX HO
                rw [← hM]
                clear hv1 hv2 hc1 hc2 hmx hM hr hE hO hkl hb1 hb2
                go_wp2_with fail
                go_loopw [8] (fun v wz => ∃ (q : Nat) (a : Option Addr) (cap : Nat), M ≤ q ∧ q ≤ max M (r + 1) ∧ v = .slice a q cap ∧ Hid (Below w.heap.size w wz) ∧ Hid (wz.ownsRow w.heap.size 2 1 (.slice a q cap) q ((leftR hold ss ns k q).map (Value.int .i64)))) (fun v _ => 9 - lenW v)
                case atStart => exact ⟨M, a, cap, Nat.le_refl _, Nat.le_max_left _ _, rfl, HE, HO⟩
                case round =>
                  clear HE HO
                  obtain ⟨q, a, cap, hMq, hqM, rfl, hE, hO⟩ := hrel
                  have hq8 : q ≤ 8 := by omega
                  have pz := (hE.out.cell (p := ⟨b2, o2 + k, none⟩) HB2.out).trans pz0.out
                  by_cases hqr : q ≤ r
                  · have hqi : (q : Int) ≤ (r : Int) := by omega
                    have HAP := Lib.hid (leftR_app (hold := hold) (ss := ss) (k := k) J0.out (show mxS ns k ≤ q by rw [← HMM.out]; exact hMq))
                    have hsz : w.heap.size ≤ wr.heap.size := hE.out.size
                    go_wp2_with (first
                      | (at_builtin; refine wpList_append_lies _ rfl _ _ _ rfl w.heap.size 2 i0 (.int .i64 0) 1 8 Tryd.underlying33 hi hz0 hz1 hz2 rfl (by omega) (.slice a q cap) q _ rfl (hO.out.alloc _) ⟨wr.heap.size, 0, none⟩ 1 1 [.int .i64 hold] rfl rfl (World.news_of_block (heap_alloc_new wr _)) (one_i _) (by omega) (by unfold maxLen; omega) (by omega) (by simp; omega) (wr.heap.size + 1) (by simp) ?_; intro gg cap2 w3 hown3 hgrow hat hlt2)
                      | fail)
                    have hE3 := Lib.hid (hE.out.grown (grown_allocS hgrow) hsz (fun k hk => (hO.out.lt k hk).1))
                    have HO3 := Lib.hid (show w3.ownsRow w.heap.size 2 1 (.slice (some ⟨gg, 0, none⟩) (q + 1) cap2) (q + 1) ((leftR hold ss ns k (q + 1)).map (Value.int .i64)) by
                      rw [← HAP.out, List.map_append]
                      exact hown3)
                    clear hgrow hown3 hat hlt2 hE hO pz
                    go_wp2
                    go_roundw
                    case rel => exact ⟨q + 1, _, _, by omega, by omega, rfl, hE3, HO3⟩
                    case measure => simp [lenW]; omega
                  · have hqi : (r : Int) < (q : Int) := by omega
                    have hrq : r < q := by omega
                    have hqe : max M (r + 1) = q := by omega
                    have HMX2 := Lib.hid (show mxS ns (k + 1) = q by rw [HMX.out]; exact hqe)
                    obtain ⟨g, rfl⟩ : ∃ g, a = some ⟨g, 0, none⟩ := by
                      rcases hO.out.2 with ⟨h1, h2⟩ | ⟨g, cap', cur, hv, _⟩
                      · omega
                      · simp only [Value.slice.injEq] at hv; exact ⟨g, hv.1⟩
                    have hgb : w.heap.size ≤ g ∧ g < wr.heap.size := hO.out.lt g rfl
                    have t1 := (hE.out.cell (p := ⟨b1, o1 + k * 2, none⟩) HB1.out).trans P1.out
                    have hfr : wr.frozen? ⟨g, r, none⟩ = false := hO.out.frozenAt r
                    have hcell := (hO.out.cellAt r (by omega)).trans (cellOf (zs := leftR hold ss ns k q) (by rw [leftR_length]; exact hrq))
                    rw [leftR_get hrq] at hcell
                    have hset := JS.out r k hlt HR.out q
                    have hbd := JB.out (r : Int) k (by omega)
                    have hcn := JC.out (r : Int) k (by omega)
                    have hxk := (JK.out k hlt).1
                    have hh := hh2.out
                    obtain ⟨x, hx⟩ : ∃ x, x = (sat ss k).1 := ⟨_, rfl⟩
                    obtain ⟨y, hy⟩ : ∃ y, y = hold - sumS (subS ss ns (r : Int)) (cntS ns (r : Int) k) := ⟨_, rfl⟩
                    have hy1 : -16000 ≤ y ∧ y ≤ 2000 := by rw [hy]; omega
                    rw [← hx] at t1 hset hxk
                    rw [← hy] at hcell hset
                    have st := hO.out.stored r (.int .i64 (y - x))
                    have HO4 := Lib.hid (show (wr.setCell ⟨g, r, none⟩ (.int .i64 (y - x))).ownsRow w.heap.size 2 1 (.slice (some ⟨g, 0, none⟩) q cap) q ((leftR hold ss ns (k + 1) q).map (Value.int .i64)) by
                      rw [← hset, List.map_set]
                      exact st.1)
                    have HE4 := Lib.hid (hE.out.setCell (p := ⟨g, r, none⟩) hgb.1 (.int .i64 (y - x)))
                    have u1 : ∀ [Inhabited Nat], IntKind.i64.wrap (y - x) = y - x := by intro _; exact (IntWalk.i64_in _ (by omega)).trans (by omega)
                    clear HMX hqM hqe hset hbd hcn hx hy st hh hgb
                    go_wp2_with fail
                    go_region_with (fail)
                    all_goals
                      go_wp2
                      go_roundw
                      case rel => exact ⟨k + 1, some ⟨g, 0, none⟩, cap, by omega, by go_num, by rw [HMX2.out], Lib.hid HE4.out.drew, Lib.hid (by rw [HMX2.out]; exact HO4.out)⟩
                      case measure => simp [intOf]; omega
              · have hkn : k = n := by omega
                subst hkn
                have HE := Lib.hid hE.out
                have HO := Lib.hid hO.out
                have hM8 : mxS ns k ≤ 8 := JM.out k (by omega)
                obtain ⟨M, hM⟩ : ∃ M, M = mxS ns k := ⟨_, rfl⟩
                rw [← hM] at hM8 HO JY JN ⊢
                clear hM hE hO
                go_wp2_with fail
                go_loop [10] (fun i => ∃ j : Nat, j ≤ M ∧ i = .int .i64 j ∧ Hid (∀ r, r < j → 0 ≤ hold - sumS (subS ss ns (r : Int)) (cntS ns (r : Int) k))) (fun i => M - (intOf i).toNat)
                case atStart => exact ⟨0, Nat.zero_le _, rfl, Lib.hid (fun r hr => by omega)⟩
                case round =>
                  obtain ⟨j, hj, rfl, hJ⟩ := hrel
                  by_cases hjm : j < M
                  · have hji : (j : Int) < (M : Int) := by omega
                    obtain ⟨g, rfl⟩ : ∃ g, a = some ⟨g, 0, none⟩ := by
                      rcases HO.out.2 with ⟨h1, h2⟩ | ⟨g, cap', cur, hv, _⟩
                      · omega
                      · simp only [Value.slice.injEq] at hv; exact ⟨g, hv.1⟩
                    have hcell := (HO.out.cellAt j (by omega)).trans (cellOf (zs := leftR hold ss ns k M) (by rw [leftR_length]; exact hjm))
                    rw [leftR_get hjm] at hcell
                    have hjn := JN.out j hjm
                    have HJ2 := Lib.hid (fun (h : 0 ≤ hold - sumS (subS ss ns (j : Int)) (cntS ns (j : Int) k)) r (hr : r < j + 1) => (show 0 ≤ hold - sumS (subS ss ns (r : Int)) (cntS ns (r : Int) k) from by
                      by_cases hrj : r = j
                      · subst hrj; exact h
                      · exact hJ.out r (by omega)))
                    generalize hold - sumS (subS ss ns (j : Int)) (cntS ns (j : Int) k) = y at *
                    by_cases hy : y < 0
                    · have HF := Lib.hid (hjn hy)
                      have EW := Lib.hid (show Own (wr.alloc (.cells #[] 2)) w.heap.size (.slice (some ⟨wr.heap.size, 0, none⟩) 0 0) [] from (World.ownsRow_made (size := 1) (e := 2) wr #[] 0 HE.out.size (by decide) rfl))
                      have BW := Lib.hid (HE.out.alloc HE.out.size (.cells #[] 2))
                      clear hjn
                      go_wp2
                      go_ret2
                      rw [HF.out]
                      exact ⟨_, rfl, EW.out, BW.out⟩
                    · have hy' : 0 ≤ y := by omega
                      have HJ3 := Lib.hid (HJ2.out hy')
                      clear hjn hy
                      go_wp2
                      go_round
                      case rel => exact ⟨j + 1, by omega, by go_num, HJ3⟩
                      case measure => simp [intOf]; omega
                  · have hjm' : j = M := by omega
                    subst hjm'
                    have HJY := Lib.hid (JY.out hJ.out)
                    have HO2 := Lib.hid (show Own wr w.heap.size (.slice a j cap) (leftR hold ss ns k j) by
                      have := HO.out
                      unfold Own
                      rw [leftR_length]
                      exact this)
                    go_wp2
                    go_ret2
                    rw [HJY.out]
                    exact ⟨_, rfl, HO2.out, HE.out⟩
        · have hne : ((ns.length : Int) != (ss.length : Int)) = true := by simp; omega
          rw [leftF_no hask (windB_no3 hl)]
          clear hal hst hin hh hask hl
          go_enter Tryd.func17, Tryd.ntmps17
          go_wp2_with fail
          refine (HA.out _ HV.out).mono ?_
          rintro e w' ⟨rfl, rfl⟩
          go_wp2_with fail
          refine (HH.out _).mono ?_
          rintro e w' ⟨rfl, rfl⟩
          go_wp2
          go_ret2
          exact ⟨_, rfl, E0.out, B0.out⟩
    · have h8i : (8 : Int) < (ss.length : Int) := by omega
      rw [leftF_bad (ask63_3 hal h8) (by decide)]
      clear hal hst h8
      go_enter Tryd.func17, Tryd.ntmps17
      go_wp2_with fail
      refine (HA.out _ HV.out).mono ?_
      rintro e w' ⟨rfl, rfl⟩
      go_wp2
      go_ret2
      exact ⟨_, rfl, E0.out, B0.out⟩
end Go.Proofs.YtaanjjmochfhgaaDoor
