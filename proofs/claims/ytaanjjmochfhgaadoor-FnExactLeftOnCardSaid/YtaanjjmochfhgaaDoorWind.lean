/-
  No statement is proved here: strands that the program winds onto reels by their numbers; condition: the numbers are within their kinds, from 1 to 8 strands.
-/
import Derived.Test.YtaanjjmochfhgaaDoorWindL
import Derived.Test.YtaanjjmochfhgaaDoorInts
import Derived.Test.YtaanjjmochfhgaaDoorIntsEq
import Derived.Deep.AppendLies
namespace Go.Proofs.YtaanjjmochfhgaaDoor
open Go.ChangeShapes Go.WideShapes Go.ChangeAt Go.RowKit

theorem one_val (u : Value) (h : u.oneCell' = true) : ∀ x ∈ [u], x.oneCell' = true := by intro x hx; simp at hx; subst hx; exact h
theorem grown_allocW {w w' : World} {o : Obj} {row : Option Nat} (h : (w.alloc o).grownBy w' row) : w.grownBy w' row :=
  ⟨h.os, h.tape, h.output, Nat.le_trans (by simp) h.size, fun i hi hne => (h.block i (by simp; omega) hne).trans (Below.heap_alloc w o i hi)⟩
theorem row_below {w w' : World} {base size n : Nat} {e : TypeId} {v : Value} {xs : List Value} (h : w.ownsRow base e size v n xs) (hB : Below w.heap.size w w') : w'.ownsRow base e size v n xs := by
  refine ⟨h.1, ?_⟩
  rcases h.2 with h2 | ⟨g, cap, cur, hv, hg, hh, r⟩
  · exact .inl h2
  · exact .inr ⟨g, cap, cur, hv, hg, by rw [hB.block g (lt_of_block hh)]; exact hh, r⟩

set_option maxRecDepth 100000 in
set_option maxHeartbeats 8000000 in
theorem wind_any (m : Nat → Int) (hold : Int) (ss : List Sn) (ns : List Int) (n b1 o1 c1 b2 o2 c2 : Nat) (w : World) (hn0 : 0 < n) (hn : n ≤ 8) (hln : n = ss.length) (hns : ns.length = ss.length)
    (h8 : Bytes6 m) (hmB : meetsB m = true) (hal : allS ss = true) (hh : 1 ≤ hold ∧ hold ≤ 2000) (hd : ∀ k, k < ss.length → dy ss k < 6 ∧ (sat ss k).2 = (dy ss k : Int)) (hu : upTo ns 7 = true)
    (hb1 : b1 < w.heap.size) (hb2 : b2 < w.heap.size)
    (hc : ∀ j, j < n → w.cell? ⟨b1, o1 + j * 3, none⟩ = some (.int .u8 (dy ss j)) ∧ w.cell? ⟨b1, o1 + j * 3 + 1, none⟩ = some (.int .i64 (sat ss j).1) ∧ w.cell? ⟨b1, o1 + j * 3 + 2, none⟩ = some (.int .i64 0))
    (hz : ∀ j, j < n → w.cell? ⟨b2, o2 + j, none⟩ = some (.int .i64 (ns.getD j 0)))
    (HU : ∀ wx, Below w.heap.size w wx → Calls Tryd.prog 47 #[.slice (some ⟨b2, o2, none⟩) n c2, .int .i64 7] wx fun e w' => e = .returned (.bool true) ∧ wx = w') :
    Calls Tryd.prog 32 #[.agg #[.int .i64 hold, .int .u8 (m 0), .int .u8 (m 1), .int .u8 (m 2), .int .u8 (m 3), .int .u8 (m 4), .int .u8 (m 5)], .slice (some ⟨b1, o1, none⟩) n c1, .slice (some ⟨b2, o2, none⟩) n c2] w
      fun e w' => ∃ r, e = .returned (.tuple #[r, .bool (rightB m hold ss ns)]) ∧ Below w.heap.size w w' ∧ (rightB m hold ss ns = true → w'.ownsRow (w.heap.size + 1) 67 1 r (mxS ns n) (rowsR m hold ss ns n (mxS ns n))) := by
  obtain ⟨i0, hi, hz0, hz1, hz2⟩ := info_parts infoReel
  have q1 := aheadLoaded
  have q2 := methodLoadedT
  have q3 := aheadLoadedW
  have q4 := methodLoadedW
  have q5 := aheadBare
  have q6 := methodBareT
  have q7 := aheadBareW
  have q8 := methodBareW
  have H8 := Lib.hid h8
  have HMB := Lib.hid hmB
  have HAL := Lib.hid hal
  have HU7 := Lib.hid hu
  have H0 := Lib.hid (getD_pos hu)
  have HUp := Lib.hid HU
  have HC := Lib.hid hc
  have HZ := Lib.hid hz
  have HD := Lib.hid hd
  have HLN := Lib.hid hln
  have HNS := Lib.hid hns
  have HH := Lib.hid hh
  clear hc hz HU hd h8 hmB hal hln hns hu hh
  obtain ⟨B, hBe⟩ : ∃ B, B = w.heap.size := ⟨_, rfl⟩
  rw [← hBe] at hb1 hb2 HUp ⊢
  have HBe := Lib.hid hBe
  clear hBe
  have BX := Lib.hid (show Below B w (w.alloc (.cells #[.int .i64 hold, .int .u8 (m 0), .int .u8 (m 1), .int .u8 (m 2), .int .u8 (m 3), .int .u8 (m 4), .int .u8 (m 5)] 61)) from (Below.refl B w).alloc (Nat.le_of_eq HBe.out) _)
  go_enter Tryd.func32, Tryd.ntmps32
  go_wp2_with fail
  refine (HUp.out _ BX.out).mono ?_
  rintro e W0 ⟨rfl, hW0⟩
  rw [hW0] at BX
  have G : ∃ G : Prop, G = (W0.cell? ⟨B, 0, none⟩ = some (.int .i64 hold) ∧ W0.cell? ⟨B, 1, none⟩ = some (.int .u8 (m 0)) ∧ W0.cell? ⟨B, 2, none⟩ = some (.int .u8 (m 1)) ∧ W0.cell? ⟨B, 3, none⟩ = some (.int .u8 (m 2)) ∧ W0.cell? ⟨B, 4, none⟩ = some (.int .u8 (m 3)) ∧ W0.cell? ⟨B, 5, none⟩ = some (.int .u8 (m 4)) ∧ W0.cell? ⟨B, 6, none⟩ = some (.int .u8 (m 5))) := ⟨_, rfl⟩
  have HG := Lib.hid (show W0.cell? ⟨B, 0, none⟩ = some (.int .i64 hold) ∧ W0.cell? ⟨B, 1, none⟩ = some (.int .u8 (m 0)) ∧ W0.cell? ⟨B, 2, none⟩ = some (.int .u8 (m 1)) ∧ W0.cell? ⟨B, 3, none⟩ = some (.int .u8 (m 2)) ∧ W0.cell? ⟨B, 4, none⟩ = some (.int .u8 (m 3)) ∧ W0.cell? ⟨B, 5, none⟩ = some (.int .u8 (m 4)) ∧ W0.cell? ⟨B, 6, none⟩ = some (.int .u8 (m 5)) from by
    rw [← hW0, HBe.out]; exact ⟨by simp [go_sem], by simp [go_sem], by simp [go_sem], by simp [go_sem], by simp [go_sem], by simp [go_sem], by simp [go_sem]⟩)
  have HS0 := Lib.hid (show W0.heap.size = B + 1 by rw [← hW0, HBe.out]; simp)
  clear hW0 G HUp
  go_wp2_with fail
  go_loopw [8, 23] (fun v i wr => ∃ (k : Nat) (a : Option Addr) (cap : Nat), k ≤ n ∧ i = .int .i64 k ∧ v = .slice a (mxS ns k) cap ∧ Hid (∀ j, j < k → takesAt m hold (subS ss ns (ns.getD j 0)) (cntS ns (ns.getD j 0) j) = true) ∧ Hid (Below (B + 1) W0 wr) ∧ Hid (wr.ownsRow (B + 1) 67 1 (.slice a (mxS ns k) cap) (mxS ns k) (rowsR m hold ss ns k (mxS ns k)))) (fun _ i _ => n - (intOf i).toNat)
  case atStart => exact ⟨0, none, 0, Nat.zero_le _, rfl, rfl, Lib.hid (fun j hj => by omega), Lib.hid (Below.refl _ _), Lib.hid ⟨rfl, .inl ⟨rfl, rfl⟩⟩⟩
  case round =>
    obtain ⟨k, a, cap, hk, rfl, rfl, hT, hE, hO⟩ := hrel
    by_cases hlt : k < n
    · have hki : (k : Int) < (n : Int) := by omega
      have hkl : k < ss.length := by rw [← HLN.out]; exact hlt
      obtain ⟨r, hr⟩ : ∃ r : Nat, ns.getD k 0 = (r : Int) := ⟨(ns.getD k 0).toNat, by have := H0.out k; omega⟩
      have hr7 : r ≤ 7 := by have := (upTo_get HU7.out k (by rw [HNS.out]; exact hkl)).2; omega
      have hmx : mxS ns (k + 1) = max (mxS ns k) (r + 1) := by rw [mxS, hr, Int.toNat_natCast]
      have hM8 : mxS ns k ≤ 8 := mxS_le HU7.out HNS.out k (by omega)
      obtain ⟨p1, p2, p3⟩ := HC.out k hlt
      have pz0 := HZ.out k hlt
      rw [hr] at pz0
      have hBW := Lib.hid (BX.out.trans (hE.out.mono (Nat.le_succ B)))
      have pz := (hBW.out.cell (p := ⟨b2, o2 + k, none⟩) hb2).trans pz0
      have P1 := Lib.hid p1
      have P2 := Lib.hid p2
      have P3 := Lib.hid p3
      have HMX := Lib.hid hmx
      have HKL := Lib.hid hkl
      have HR := Lib.hid hr
      have HE := Lib.hid hE.out
      have HO := Lib.hid hO.out
      have HTT := Lib.hid hT.out
      obtain ⟨M, hM⟩ : ∃ M, M = mxS ns k := ⟨_, rfl⟩
      have HMM := Lib.hid hM
      rw [← hM] at hM8 HMX HO
      rw [← hM]
      clear p1 p2 p3 pz0 hmx hM hE hO hT hkl hr hBW
      go_wp2_with fail
      clear pz
      go_loopw [8] (fun v wz => ∃ (q : Nat) (a : Option Addr) (cap : Nat), M ≤ q ∧ q ≤ max M (r + 1) ∧ v = .slice a q cap ∧ Hid (Below (B + 1) W0 wz) ∧ Hid (wz.ownsRow (B + 1) 67 1 (.slice a q cap) q (rowsR m hold ss ns k q))) (fun v _ => 9 - lenV v)
      case atStart => exact ⟨M, a, cap, Nat.le_refl _, Nat.le_max_left _ _, rfl, HE, HO⟩
      case round =>
        clear HE HO
        obtain ⟨q, a, cap, hMq, hqM, rfl, hE, hO⟩ := hrel
        have hq8 : q ≤ 8 := by omega
        by_cases hqr : q ≤ r
        · have hqi : (q : Int) ≤ (r : Int) := by omega
          have g0 : wr.cell? ⟨w.heap.size, 0, none⟩ = some (.int .i64 hold) := by rw [← HBe.out]; exact (hE.out.cell (p := ⟨B, 0, none⟩) (Nat.lt_succ_self B)).trans HG.out.1
          have g1 : wr.cell? ⟨w.heap.size, 1, none⟩ = some (.int .u8 (m 0)) := by rw [← HBe.out]; exact (hE.out.cell (p := ⟨B, 1, none⟩) (Nat.lt_succ_self B)).trans HG.out.2.1
          have g2 : wr.cell? ⟨w.heap.size, 2, none⟩ = some (.int .u8 (m 1)) := by rw [← HBe.out]; exact (hE.out.cell (p := ⟨B, 2, none⟩) (Nat.lt_succ_self B)).trans HG.out.2.2.1
          have g3 : wr.cell? ⟨w.heap.size, 3, none⟩ = some (.int .u8 (m 2)) := by rw [← HBe.out]; exact (hE.out.cell (p := ⟨B, 3, none⟩) (Nat.lt_succ_self B)).trans HG.out.2.2.2.1
          have g4 : wr.cell? ⟨w.heap.size, 4, none⟩ = some (.int .u8 (m 3)) := by rw [← HBe.out]; exact (hE.out.cell (p := ⟨B, 4, none⟩) (Nat.lt_succ_self B)).trans HG.out.2.2.2.2.1
          have g5 : wr.cell? ⟨w.heap.size, 5, none⟩ = some (.int .u8 (m 4)) := by rw [← HBe.out]; exact (hE.out.cell (p := ⟨B, 5, none⟩) (Nat.lt_succ_self B)).trans HG.out.2.2.2.2.2.1
          have g6 : wr.cell? ⟨w.heap.size, 6, none⟩ = some (.int .u8 (m 5)) := by rw [← HBe.out]; exact (hE.out.cell (p := ⟨B, 6, none⟩) (Nat.lt_succ_self B)).trans HG.out.2.2.2.2.2.2
          have HAP := Lib.hid (rowsR_app (m := m) (hold := hold) (ss := ss) (k := k) H0.out (show mxS ns k ≤ q by rw [← HMM.out]; exact hMq))
          rw [rvR_zero] at HAP
          have hsz : B + 1 ≤ wr.heap.size := by have := hE.out.size; rw [HS0.out] at this; exact this
          go_wp2_with (first
            | (at_builtin; refine wpList_append_lies _ rfl _ _ _ rfl (B + 1) 67 i0 .nilIface 1 16 Tryd.underlying57 hi hz0 hz1 hz2 rfl (by omega) (.slice a q cap) q _ rfl (hO.out.alloc _) ⟨wr.heap.size, 0, none⟩ 1 1 [.iface 61 (.agg #[.int .i64 hold, .int .u8 (m 0), .int .u8 (m 1), .int .u8 (m 2), .int .u8 (m 3), .int .u8 (m 4), .int .u8 (m 5)])] rfl rfl (World.news_of_block (heap_alloc_new wr _)) (one_val _ rfl) (by omega) (by unfold maxLen; omega) (by omega) (by simp; omega) (wr.heap.size + 1) (by simp) ?_; intro gg cap2 w3 hown3 hgrow hat hlt2)
            | fail)
          have hE3 := Lib.hid (hE.out.grown (grown_allocW hgrow) hsz (fun k hk => (hO.out.lt k hk).1))
          rw [HAP.out] at hown3
          have HO3 := Lib.hid hown3
          clear hgrow hown3 hat hlt2 hE hO g0 g1 g2 g3 g4 g5 g6
          go_wp2
          go_roundw
          case rel => exact ⟨q + 1, _, _, by omega, by omega, rfl, hE3, HO3⟩
          case measure => simp [lenV]; omega
        · have hqi : (r : Int) < (q : Int) := by omega
          have hrq : r < q := by omega
          have hqe : max M (r + 1) = q := by omega
          have HMX2 := Lib.hid (show mxS ns (k + 1) = q by rw [HMX.out]; exact hqe)
          obtain ⟨g, rfl⟩ : ∃ g, a = some ⟨g, 0, none⟩ := by
            rcases hO.out.2 with ⟨h1, h2⟩ | ⟨g, cap', cur, hv, _⟩
            · omega
            · simp only [Value.slice.injEq] at hv; exact ⟨g, hv.1⟩
          clear HMX hqM hqe
          go_wp2_with fail
          have hgb : B + 1 ≤ g ∧ g < wr.heap.size := hO.out.lt g rfl
          have hbz := Lib.hid (BX.out.trans (hE.out.mono (Nat.le_succ B)))
          have t1 := (hbz.out.cell (p := ⟨b1, o1 + k * 3, none⟩) hb1).trans P1.out
          have t2 := (hbz.out.cell (p := ⟨b1, o1 + k * 3 + 1, none⟩) hb1).trans P2.out
          have t3 := (hbz.out.cell (p := ⟨b1, o1 + k * 3 + 2, none⟩) hb1).trans P3.out
          have hfr : wr.frozen? ⟨g, r, none⟩ = false := hO.out.frozenAt r
          have hcell := (hO.out.cellAt r (by omega)).trans (rowsR_get (k := k) hrq)
          obtain ⟨hsl, hsa⟩ := subS_at (r : Int) ss ns HNS.out k HKL.out HR.out
          have hNo := fun (hf : takesAt m hold (subS ss ns (r : Int)) (cntS ns (r : Int) k) = false) => rightB_no (m := m) (hold := hold) HKL.out (by rw [HR.out]; exact hf)
          have hSet := rowsR_set (m := m) (hold := hold) (ss := ss) (q := q) HR.out
          have hLd := dy_sub HNS.out HD.out (r : Int) (cntS ns (r : Int) k) hsl
          have hdE : dy (subS ss ns (r : Int)) (cntS ns (r : Int) k) = dy ss k := by unfold dy; rw [hsa]
          have hsb := sumS_bd (subS_all (r : Int) HNS.out HAL.out) (cntS ns (r : Int) k) (by omega)
          have hxk := (okS_at (allS_get HAL.out k HKL.out)).1
          have hfb := fits_bd H8.out HMB.out (fun j hj => (dy_sub HNS.out HD.out (r : Int) j hj).1) (cntS ns (r : Int) k) (by omega)
          have hT2 := fun (hf : takesAt m hold (subS ss ns (r : Int)) (cntS ns (r : Int) k) = true) j (hj : j < k + 1) => (show takesAt m hold (subS ss ns (ns.getD j 0)) (cntS ns (ns.getD j 0) j) = true from by
            by_cases hjk : j = k
            · subst hjk; rw [HR.out]; exact hf
            · exact HTT.out j (by omega))
          have hh := HH.out
          rw [hdE] at hLd
          by_cases hc0 : cntS ns (r : Int) k = 0
          · have htk : takesAt m hold (subS ss ns (r : Int)) (cntS ns (r : Int) k) = decide ((sat ss k).1 ≤ hold) := by rw [hc0] at hsa ⊢; unfold takesAt; rw [hsa]; simp [sumS]
            have hrv : rvR m hold (subS ss ns (r : Int)) (cntS ns (r : Int) k + 1) = .iface 92 (.agg #[.int .i64 (hold - (sat ss k).1), .int .u8 (m (dy ss k)), .int .u8 (m 0), .int .u8 (m 1), .int .u8 (m 2), .int .u8 (m 3), .int .u8 (m 4), .int .u8 (m 5)]) := by
              rw [hc0] at hsa hdE ⊢
              rw [rvR_pos _ _ _ (by omega)]
              simp [sumS, fitsTo, hsa, hdE]
            rw [show rvR m hold (subS ss ns (r : Int)) (cntS ns (r : Int) k) = .iface 61 (.agg #[.int .i64 hold, .int .u8 (m 0), .int .u8 (m 1), .int .u8 (m 2), .int .u8 (m 3), .int .u8 (m 4), .int .u8 (m 5)]) from by rw [hc0]; rfl] at hcell
            have HTk := Lib.hid fun wx => bareTakes_any hold m (dy ss k) (sat ss k).1 0 wx
            have HWk := Lib.hid fun wx (hle : (sat ss k).1 ≤ hold) => bareWith_any hold m (dy ss k) (sat ss k).1 0 wx hLd.1 (by omega) hle (by omega)
            unfold tv at HTk
            rw [← htk] at HTk
            have HLE := Lib.hid fun (h : takesAt m hold (subS ss ns (r : Int)) (cntS ns (r : Int) k) = true) => (show (sat ss k).1 ≤ hold from of_decide_eq_true (htk.symm.trans h))
            have HNo := Lib.hid hNo
            have HSET := Lib.hid hSet
            have HT2 := Lib.hid hT2
            have HRV := Lib.hid hrv
            have HBZ := hbz
            have HGB := Lib.hid (show B < wr.heap.size by omega)
            have HB1 := Lib.hid (show b1 < wr.heap.size by have := hbz.out.size; omega)
            have T1 := Lib.hid t1
            have T2 := Lib.hid t2
            have T3 := Lib.hid t3
            have HCELL := Lib.hid hcell
            have HFR := Lib.hid hfr
            clear hNo hSet hT2 hrv htk hbz hsa hdE hsb hfb hsl hLd hc0 hh hxk
            generalize (sat ss k).1 = x at *
            generalize dy ss k = d at *
            generalize subS ss ns (r : Int) = L at *
            generalize cntS ns (r : Int) k = c at *
            cases ht : takesAt m hold L c with
            | false =>
              rw [ht] at HTk
              have HF := Lib.hid (HNo.out ht)
              clear ht
              go_region_with (first
                | (go_at_call 49; refine (HTk.out _).mono ?_; rintro e w3 ⟨rfl, hB3⟩; have H3 := Lib.hid ((Below.refl wr.heap.size wr).drew.trans hB3); clear hB3))
              all_goals
                go_wp2
                go_ret2
                exact ⟨_, by rw [HF.out]; rfl, HBZ.out.trans (H3.out.mono (Nat.le_of_lt HGB.out)), fun hf => by rw [HF.out] at hf; cases hf⟩
            | true =>
              rw [ht] at HTk
              have hle := HLE.out ht
              have HW2 := Lib.hid fun wx => HWk.out wx hle
              have HTT2 := Lib.hid (HT2.out ht)
              clear ht
              go_region_with (first
                | (go_at_call 49; refine (HTk.out _).mono ?_; rintro e w3 ⟨rfl, hB3⟩; have H3 := Lib.hid ((Below.refl wr.heap.size wr).drew.trans hB3); clear hB3))
              all_goals
                clear t1 t2 t3 hcell hfr
                have t1 := (H3.out.cell (p := ⟨b1, o1 + k * 3, none⟩) HB1.out).trans T1.out
                have t2 := (H3.out.cell (p := ⟨b1, o1 + k * 3 + 1, none⟩) HB1.out).trans T2.out
                have t3 := (H3.out.cell (p := ⟨b1, o1 + k * 3 + 2, none⟩) HB1.out).trans T3.out
                have hcell := (H3.out.cell (p := ⟨g, r, none⟩) hgb.2).trans HCELL.out
                have hfr := (H3.out.frozen (p := ⟨g, r, none⟩) hgb.2).trans HFR.out
                have hg3 := Nat.lt_of_lt_of_le hgb.2 H3.out.size
                have O3 := Lib.hid (row_below hO.out H3.out)
                have E3 := Lib.hid (hE.out.trans (H3.out.mono (Nat.le_trans hgb.1 (Nat.le_of_lt hgb.2))))
                clear H3
                go_wp2_with fail
                go_region_with (first
                  | (go_at_call 75; refine (HW2.out _).mono ?_; rintro e w4 ⟨rfl, hB4⟩; have H4 := Lib.hid ((Below.refl w3.heap.size w3).drew.trans hB4); have k4 := (H4.out.cell (p := ⟨g, r, none⟩) hg3).trans hcell; have f4 := (H4.out.frozen (p := ⟨g, r, none⟩) hg3).trans hfr; clear hB4))
                all_goals
                  have O4 := row_below O3.out H4.out
                  have E4 := Lib.hid ((E3.out.trans (H4.out.mono (Nat.le_trans hgb.1 (Nat.le_of_lt hg3)))).setCell (p := ⟨g, r, none⟩) hgb.1 (rvR m hold L (c + 1)))
                  have S4 := (O4.stored r (rvR m hold L (c + 1))).1
                  rw [HSET.out] at S4
                  have S5 := Lib.hid S4
                  rw [HRV.out] at E4 S5
                  clear O4 S4 t1 t2 t3 hcell hfr k4 f4
                  have HTT3 := HTT2
                  go_wp2
                  go_roundw
                  case rel => exact ⟨k + 1, some ⟨g, 0, none⟩, cap, by omega, by go_num, by rw [HMX2.out], HTT3, E4, Lib.hid (by rw [HMX2.out]; exact S5.out)⟩
                  case measure => simp [intOf]; omega
          · have htk : takesAt m hold (subS ss ns (r : Int)) (cntS ns (r : Int) k) = (decide ((sat ss k).1 ≤ hold - sumS (subS ss ns (r : Int)) (cntS ns (r : Int) k)) && hasB (fitsTo m (subS ss ns (r : Int)) (cntS ns (r : Int) k)) (dy ss k)) := by unfold takesAt; rw [hsa, hdE]; simp [hc0]
            have hrv : rvR m hold (subS ss ns (r : Int)) (cntS ns (r : Int) k + 1) = .iface 92 (.agg #[.int .i64 (hold - sumS (subS ss ns (r : Int)) (cntS ns (r : Int) k) - (sat ss k).1), .int .u8 (bits BinOp.and IntKind.u8 (fitsTo m (subS ss ns (r : Int)) (cntS ns (r : Int) k)) (m (dy ss k))), .int .u8 (m 0), .int .u8 (m 1), .int .u8 (m 2), .int .u8 (m 3), .int .u8 (m 4), .int .u8 (m 5)]) := by
              rw [rvR_pos _ _ _ (by omega), sumS, fitsTo, if_neg hc0, hsa, hdE, Int.sub_sub]
            rw [rvR_pos _ _ _ (by omega)] at hcell
            have HTk := Lib.hid fun wx => loadedTakes_any (hold - sumS (subS ss ns (r : Int)) (cntS ns (r : Int) k)) (fitsTo m (subS ss ns (r : Int)) (cntS ns (r : Int) k)) m (dy ss k) (sat ss k).1 0 wx hfb hLd.1
            have HWk := Lib.hid fun wx (hle : (sat ss k).1 ≤ hold - sumS (subS ss ns (r : Int)) (cntS ns (r : Int) k)) => loadedWith_any (hold - sumS (subS ss ns (r : Int)) (cntS ns (r : Int) k)) (fitsTo m (subS ss ns (r : Int)) (cntS ns (r : Int) k)) m (dy ss k) (sat ss k).1 0 wx hLd.1 (by omega) hle (by omega)
            rw [← htk] at HTk
            have HLE := Lib.hid fun (h : takesAt m hold (subS ss ns (r : Int)) (cntS ns (r : Int) k) = true) => (show (sat ss k).1 ≤ hold - sumS (subS ss ns (r : Int)) (cntS ns (r : Int) k) from by
              rw [htk, Bool.and_eq_true] at h
              exact of_decide_eq_true h.1)
            have HNo := Lib.hid hNo
            have HSET := Lib.hid hSet
            have HT2 := Lib.hid hT2
            have HRV := Lib.hid hrv
            have HBZ := hbz
            have HGB := Lib.hid (show B < wr.heap.size by omega)
            have HB1 := Lib.hid (show b1 < wr.heap.size by have := hbz.out.size; omega)
            have T1 := Lib.hid t1
            have T2 := Lib.hid t2
            have T3 := Lib.hid t3
            have HCELL := Lib.hid hcell
            have HFR := Lib.hid hfr
            clear hNo hSet hT2 hrv htk hbz hsa hdE hsb hfb hsl hLd hc0 hh hxk
            generalize hold - sumS (subS ss ns (r : Int)) (cntS ns (r : Int) k) = l at *
            generalize fitsTo m (subS ss ns (r : Int)) (cntS ns (r : Int) k) = f at *
            generalize (sat ss k).1 = x at *
            generalize dy ss k = d at *
            generalize subS ss ns (r : Int) = L at *
            generalize cntS ns (r : Int) k = c at *
            cases ht : takesAt m hold L c with
            | false =>
              rw [ht] at HTk
              have HF := Lib.hid (HNo.out ht)
              clear ht
              go_region_with (first
                | (go_at_call 77; refine (HTk.out _).mono ?_; rintro e w3 ⟨rfl, hB3⟩; have H3 := Lib.hid ((Below.refl wr.heap.size wr).drew.trans hB3); clear hB3))
              all_goals
                go_wp2
                go_ret2
                exact ⟨_, by rw [HF.out]; rfl, HBZ.out.trans (H3.out.mono (Nat.le_of_lt HGB.out)), fun hf => by rw [HF.out] at hf; cases hf⟩
            | true =>
              rw [ht] at HTk
              have hle := HLE.out ht
              have HW2 := Lib.hid fun wx => HWk.out wx hle
              have HTT2 := Lib.hid (HT2.out ht)
              clear ht
              go_region_with (first
                | (go_at_call 77; refine (HTk.out _).mono ?_; rintro e w3 ⟨rfl, hB3⟩; have H3 := Lib.hid ((Below.refl wr.heap.size wr).drew.trans hB3); clear hB3))
              all_goals
                clear t1 t2 t3 hcell hfr
                have t1 := (H3.out.cell (p := ⟨b1, o1 + k * 3, none⟩) HB1.out).trans T1.out
                have t2 := (H3.out.cell (p := ⟨b1, o1 + k * 3 + 1, none⟩) HB1.out).trans T2.out
                have t3 := (H3.out.cell (p := ⟨b1, o1 + k * 3 + 2, none⟩) HB1.out).trans T3.out
                have hcell := (H3.out.cell (p := ⟨g, r, none⟩) hgb.2).trans HCELL.out
                have hfr := (H3.out.frozen (p := ⟨g, r, none⟩) hgb.2).trans HFR.out
                have hg3 := Nat.lt_of_lt_of_le hgb.2 H3.out.size
                have O3 := Lib.hid (row_below hO.out H3.out)
                have E3 := Lib.hid (hE.out.trans (H3.out.mono (Nat.le_trans hgb.1 (Nat.le_of_lt hgb.2))))
                clear H3
                go_wp2_with fail
                go_region_with (first
                  | (go_at_call 78; refine (HW2.out _).mono ?_; rintro e w4 ⟨rfl, hB4⟩; have H4 := Lib.hid ((Below.refl w3.heap.size w3).drew.trans hB4); have k4 := (H4.out.cell (p := ⟨g, r, none⟩) hg3).trans hcell; have f4 := (H4.out.frozen (p := ⟨g, r, none⟩) hg3).trans hfr; clear hB4))
                all_goals
                  have O4 := row_below O3.out H4.out
                  have E4 := Lib.hid ((E3.out.trans (H4.out.mono (Nat.le_trans hgb.1 (Nat.le_of_lt hg3)))).setCell (p := ⟨g, r, none⟩) hgb.1 (rvR m hold L (c + 1)))
                  have S4 := (O4.stored r (rvR m hold L (c + 1))).1
                  rw [HSET.out] at S4
                  have S5 := Lib.hid S4
                  rw [HRV.out] at E4 S5
                  clear O4 S4 t1 t2 t3 hcell hfr k4 f4
                  have HTT3 := HTT2
                  go_wp2
                  go_roundw
                  case rel => exact ⟨k + 1, some ⟨g, 0, none⟩, cap, by omega, by go_num, by rw [HMX2.out], HTT3, E4, Lib.hid (by rw [HMX2.out]; exact S5.out)⟩
                  case measure => simp [intOf]; omega
    · have hkn : k = n := by omega
      subst hkn
      have HR1 := Lib.hid (rightB_all (m := m) (hold := hold) (ss := ss) (ns := ns) (fun j hj => hT.out j (by rw [HLN.out]; exact hj)))
      have HBF := Lib.hid (BX.out.trans (hE.out.mono (Nat.le_succ B)))
      go_wp2
      go_ret2
      exact ⟨_, by rw [HR1.out]; rfl, HBF.out, fun _ => hO.out⟩
end Go.Proofs.YtaanjjmochfhgaaDoor
