/-
  No statement is proved here: what LeftOn of the program answers; condition: its errors lie where its text lays them; at most 1048576 strands and numbers.
-/
import Derived.Test.YtaanjjmochfhgaaDoorLeftM
import Derived.Test.YtaanjjmochfhgaaDoorBox1
import Derived.OwnWalk
import Derived.Deep.RegionHeld3
namespace Go.Proofs.YtaanjjmochfhgaaDoor
open Go.ChangeShapes Go.WideShapes Go.ChangeAt Go.RowKit

theorem assertBare (v : Value) (w : World) : (Instr.typeAssert (.iface 61 v) 67 61 true).run Tryd.prog w = .ok (.tuple #[v, .bool true]) w := by kernel_rfl
theorem assertNotBare (v : Value) (w : World) : (Instr.typeAssert (.iface 92 v) 67 61 true).run Tryd.prog w = .ok (.tuple #[.agg #[.int .i64 0, .int .u8 0, .int .u8 0, .int .u8 0, .int .u8 0, .int .u8 0, .int .u8 0], .bool false]) w := by kernel_rfl
theorem assertLoaded (v : Value) (w : World) : (Instr.typeAssert (.iface 92 v) 67 92 true).run Tryd.prog w = .ok (.tuple #[v, .bool true]) w := by kernel_rfl
set_option maxRecDepth 100000 in
set_option maxHeartbeats 1000000 in
theorem leftOnBare_any (hold : Int) (m : Nat → Int) (w : World) :
    Calls Tryd.prog 36 #[.iface 61 (.agg #[.int .i64 hold, .int .u8 (m 0), .int .u8 (m 1), .int .u8 (m 2), .int .u8 (m 3), .int .u8 (m 4), .int .u8 (m 5)])] w fun e w' => e = .returned (.int .i64 hold) ∧ Below w.heap.size w w' := by
  have q1 := assertBare
  have q2 := assertNotBare
  have q3 := assertLoaded
  go_enter Tryd.func36, Tryd.ntmps36
  go_wp2
  go_ret
  exact ⟨rfl, by go_grown⟩
set_option maxRecDepth 100000 in
set_option maxHeartbeats 1000000 in
theorem leftOnLoaded_any (l f : Int) (m : Nat → Int) (w : World) :
    Calls Tryd.prog 36 #[.iface 92 (.agg #[.int .i64 l, .int .u8 f, .int .u8 (m 0), .int .u8 (m 1), .int .u8 (m 2), .int .u8 (m 3), .int .u8 (m 4), .int .u8 (m 5)])] w fun e w' => e = .returned (.int .i64 l) ∧ Below w.heap.size w w' := by
  have q1 := assertBare
  have q2 := assertNotBare
  have q3 := assertLoaded
  go_enter Tryd.func36, Tryd.ntmps36
  go_wp2
  go_ret
  exact ⟨rfl, by go_grown⟩
theorem leftOn_any (m : Nat → Int) (hold : Int) (ss : List Sn) (k : Nat) (w : World) :
    Calls Tryd.prog 36 #[rvR m hold ss k] w fun e w' => e = .returned (.int .i64 (hold - sumS ss k)) ∧ Below w.heap.size w w' := by
  by_cases h : k = 0
  · subst h
    rw [rvR_zero, show hold - sumS ss 0 = hold by simp [sumS]]
    exact leftOnBare_any hold m w
  · rw [rvR_pos m hold ss (by omega)]
    exact leftOnLoaded_any _ _ m w

set_option maxRecDepth 100000 in
set_option maxHeartbeats 8000000 in
theorem implLeft_any (p : Nat → Addr) (hold : Int) (v u : Value) (ss : List Sn) (ns : List Int) (w : World) (hs : Sent w p) (h : Strands w v ss) (hn : ss.length ≤ 1048576) (hN : Ints w u ns) (hnn : ns.length ≤ 1048576) :
    Calls Tryd.prog 18 #[.int .i64 hold, v, u] w fun e w' => ∃ r, e = .returned (.tuple #[r, .int .i64 (leftF hold ss ns).2]) ∧ Own w' w.heap.size r (leftF hold ss ns).1 ∧ Below w.heap.size w w' := by
  obtain ⟨i0, hi, hz0, hz1, hz2⟩ := info_parts info64
  have HC := Lib.hid (show ∀ wx, Sent wx p → Strands wx v ss → Calls Tryd.prog 31 #[.agg #[.int .u8 63, .int .u8 63, .int .u8 63, .int .u8 63, .int .u8 63, .int .u8 63], .int .i64 hold, v] wx fun e w' => e = .returned (.int .i64 (askS m63 ss (inB hold 1 2000))) ∧ Below wx.heap.size wx w' from fun wx hs hx => by rw [← codeR_ask]; exact reelsCode_any p m63 hold v ss wx hs m63_bytes hx hn)
  have X0 := Lib.hid (show Box1 w (w.alloc (.cells #[.int .u8 63, .int .u8 63, .int .u8 63, .int .u8 63, .int .u8 63, .int .u8 63] 27)) m63 from box1_made w 27 m63)
  have HP := Lib.hid hs
  have HS := Lib.hid h
  by_cases h0 : askS m63 ss (inB hold 1 2000) = 0
  · obtain ⟨hmB, hal, hl8, hin⟩ := askS_zero h0
    have hh := inB_of hin
    have hst : ∀ j, IsSt (sat ss j) := h.1
    have HT := Lib.hid fun wx (hb : Box1 w wx m63) => threadsOf_any v ss wx (HS.out.below hb.under) hn
    have HNN := Lib.hid hN
    have HW := Lib.hid (show ∀ base ut wx, Box1 w wx m63 → OwnT wx base ut (threadsT ss) → Calls Tryd.prog 32 #[.agg #[.int .i64 hold, .int .u8 63, .int .u8 63, .int .u8 63, .int .u8 63, .int .u8 63, .int .u8 63], ut, u] wx
      fun e w' => ∃ r, e = .returned (.tuple #[r, .bool (windB m63 hold ss ns)]) ∧ Below wx.heap.size wx w' ∧ (windB m63 hold ss ns = true → w'.ownsRow (wx.heap.size + 1) 67 1 r (mxS ns ss.length) (rowsR m63 hold ss ns ss.length (mxS ns ss.length))) from
      fun base ut wx hb hO => wind_all m63 hold ss ns ut u wx base m63_bytes hmB hal hst hl8 hh hO (HNN.out.below hb.under) hnn)
    rw [h0] at HC
    cases hw : windB m63 hold ss ns with
    | false =>
      rw [leftF_no h0 hw]
      rw [hw] at HW
      clear h0 hmB hal hl8 hin hh hst hN h hs hn hnn hw
      obtain ⟨a0, c0, rfl⟩ := HS.out.len
      go_enter Tryd.func18, Tryd.ntmps18
      go_wp2_with fail
      refine (HC.out _ (HP.out.below X0.out.under) (HS.out.below X0.out.under)).mono ?_
      rintro e w1 ⟨rfl, hB⟩
      have X1 := Lib.hid (box1_below X0.out hB)
      clear hB X0
      go_wp2_with fail
      go_region_held3 (fun w' => w'.cell? ⟨w.heap.size, 0, none⟩ = some (.int .u8 63) ∧ w'.cell? ⟨w.heap.size, 1, none⟩ = some (.int .u8 63) ∧ w'.cell? ⟨w.heap.size, 2, none⟩ = some (.int .u8 63) ∧ w'.cell? ⟨w.heap.size, 3, none⟩ = some (.int .u8 63) ∧ w'.cell? ⟨w.heap.size, 4, none⟩ = some (.int .u8 63) ∧ w'.cell? ⟨w.heap.size, 5, none⟩ = some (.int .u8 63) ∧ Below w.heap.size w w' ∧ w.heap.size < w'.heap.size)
        (first | assumption | exact box1_raw (m := m63) (box1_drew X1.out) | (refine box1_next (m := m63) ?_ hB; assumption))
        (first | (go_at_call 33; refine (HT.out _ (box1_id (w := w) (m := m63) (by assumption))).mono ?_; rintro e w' ⟨ut, rfl, hO, hB⟩) | (go_at_call 32; refine (HW.out _ _ _ (box1_id (w := w) (m := m63) (by assumption)) hO).mono ?_; rintro e w' ⟨rr, rfl, hB, hrow⟩))
      all_goals
        have HE := Lib.hid (box1_id (w := w) (m := m63) (by assumption))
        clear hrow
        go_wp2
        go_ret2
        exact ⟨_, rfl, ⟨rfl, .inl ⟨rfl, rfl⟩⟩, HE.out.under⟩
    | true =>
      rw [leftF_yes h0 hw]
      rw [hw] at HW
      have hu : upTo ns 7 = true := by
        unfold windB at hw
        simp only [Bool.and_eq_true] at hw
        exact hw.2.1
      have hlen : ns.length = ss.length := by
        unfold windB at hw
        simp only [Bool.and_eq_true] at hw
        exact of_decide_eq_true hw.1
      have hM8 : mxS ns ss.length ≤ 8 := mxS_le hu hlen ss.length (Nat.le_refl _)
      have HGet := Lib.hid fun j (hj : j < mxS ns ss.length) => rowsR_get (m := m63) (hold := hold) (ss := ss) (ns := ns) (k := ss.length) hj
      have HLv := Lib.hid fun j (hj : j < mxS ns ss.length) => leftR_get (hold := hold) (ss := ss) (ns := ns) (k := ss.length) hj
      have HLo := Lib.hid fun (j : Nat) wx => leftOn_any m63 hold (subS ss ns (j : Int)) (cntS ns (j : Int) ss.length) wx
      have HLL := Lib.hid (leftR_length hold ss ns ss.length (mxS ns ss.length))
      have HRL := Lib.hid (rowsR_length m63 hold ss ns ss.length (mxS ns ss.length))
      generalize rowsR m63 hold ss ns ss.length (mxS ns ss.length) = rows at *
      generalize leftR hold ss ns ss.length (mxS ns ss.length) = zs at *
      generalize mxS ns ss.length = M at *
      clear h0 hmB hal hl8 hin hh hst hN h hs hn hnn hw hu hlen
      obtain ⟨a0, c0, rfl⟩ := HS.out.len
      go_enter Tryd.func18, Tryd.ntmps18
      go_wp2_with fail
      refine (HC.out _ (HP.out.below X0.out.under) (HS.out.below X0.out.under)).mono ?_
      rintro e w1 ⟨rfl, hB⟩
      have X1 := Lib.hid (box1_below X0.out hB)
      clear hB X0
      go_wp2_with fail
      go_region_held3 (fun w' => w'.cell? ⟨w.heap.size, 0, none⟩ = some (.int .u8 63) ∧ w'.cell? ⟨w.heap.size, 1, none⟩ = some (.int .u8 63) ∧ w'.cell? ⟨w.heap.size, 2, none⟩ = some (.int .u8 63) ∧ w'.cell? ⟨w.heap.size, 3, none⟩ = some (.int .u8 63) ∧ w'.cell? ⟨w.heap.size, 4, none⟩ = some (.int .u8 63) ∧ w'.cell? ⟨w.heap.size, 5, none⟩ = some (.int .u8 63) ∧ Below w.heap.size w w' ∧ w.heap.size < w'.heap.size)
        (first | assumption | exact box1_raw (m := m63) (box1_drew X1.out) | (refine box1_next (m := m63) ?_ hB; assumption))
        (first | (go_at_call 33; refine (HT.out _ (box1_id (w := w) (m := m63) (by assumption))).mono ?_; rintro e w' ⟨ut, rfl, hO, hB⟩) | (go_at_call 32; refine (HW.out _ _ _ (box1_id (w := w) (m := m63) (by assumption)) hO).mono ?_; rintro e w4 ⟨rr, rfl, hB, hrow⟩))
      all_goals
        have HE := Lib.hid (box1_id (w := w) (W := w4) (m := m63) (by assumption))
        have HR := Lib.hid (hrow (by trivial))
        clear hrow
        obtain ⟨ar, cr, rfl⟩ : ∃ a c, rr = .slice a M c := by
          rcases HR.out.2 with ⟨h1, h2⟩ | ⟨g, cap, cur, hv, _⟩
          · exact ⟨none, 0, by rw [h1, h2]⟩
          · exact ⟨_, _, hv⟩
        have BW := Lib.hid (show Below w.heap.size w w4 from HE.out.under)
        have HSZ := Lib.hid (show w.heap.size ≤ w4.heap.size from HE.out.under.size)
        clear HE
        go_wp2_with (first | (at_make; refine wpList_make_full _ rfl _ _ 33 rfl w4.heap.size 2 i0 (.int .i64 0) 1 Tryd.underlying33 hi hz0 hz1 _ _ _ _ M rfl rfl rfl rfl (by rw [hz2]; omega) (by unfold maxLen; omega) (Nat.le_refl _) ?_; intro w5 hown hgrow) | fail)
        have hB5 : Below w4.heap.size w4 w5 := (Below.refl _ _).grown hgrow (Nat.le_refl _) (fun k hk => by cases hk)
        have hz0' : (madeCells (Value.int IntKind.i64 0).cells (M * 1)).toList = (fill zs 0).map (Value.int .i64) := by
          rw [fill_zero, HLL.out, Nat.mul_one]
          show (madeCells #[Value.int IntKind.i64 0] M).toList = _
          rw [toList_madeCells_one]
          simp
        rw [hz0'] at hown
        obtain ⟨D, hDe⟩ : ∃ D, D = w4.heap.size := ⟨_, rfl⟩
        rw [← hDe] at hB5 hown HSZ ⊢
        have HO5 := Lib.hid hown
        have HB5 := Lib.hid hB5
        have HRW := Lib.hid HR.out
        have HGL := Lib.hid (show ∀ g, (Value.slice ar M cr).ownBlock = some g → g < D from fun g hg => by rw [hDe]; exact (HRW.out.lt g hg).2)
        have HFL := Lib.hid fun k (hk : k ≤ M) => fill_length zs k (by rw [HLL.out]; exact hk)
        have HST := Lib.hid fun k (hk : k < M) => fill_step zs k (by rw [HLL.out]; exact hk)
        clear hgrow hown hz0' hB5 hDe
        go_loopw [40] (fun i wr => ∃ k : Nat, k ≤ M ∧ i = .int .i64 k ∧ Hid (wr.ownsRow D 2 1 (.slice (some ⟨D, 0, none⟩) M M) M ((fill zs k).map (Value.int .i64))) ∧ Hid (Below D w4 wr)) (fun i _ => M - (intOf i).toNat)
        case atStart => exact ⟨0, Nat.zero_le _, rfl, HO5, HB5⟩
        case round =>
          clear HO5 HB5
          obtain ⟨k, hk, rfl, hO, hBe⟩ := hrel
          by_cases hlt : k < M
          · have hki : (k : Int) < (M : Int) := by omega
            obtain ⟨g, rfl⟩ : ∃ g, ar = some ⟨g, 0, none⟩ := by
              rcases HRW.out.2 with ⟨h1, h2⟩ | ⟨g, cap', cur, hv, _⟩
              · omega
              · simp only [Value.slice.injEq] at hv; exact ⟨g, hv.1⟩
            have hgD : g < D := HGL.out g rfl
            have hcell : wr.cell? ⟨g, k, none⟩ = some (rvR m63 hold (subS ss ns (k : Int)) (cntS ns (k : Int) ss.length)) := (hBe.out.cell (p := ⟨g, k, none⟩) hgD).trans ((HRW.out.cellAt k (by omega)).trans (HGet.out k hlt))
            have HK := Lib.hid (HLo.out k)
            have hz := HLv.out k hlt
            rw [← hz] at HK
            have HFk := Lib.hid (HFL.out k hk)
            have HSk := Lib.hid (HST.out k hlt)
            obtain ⟨z, hze⟩ : ∃ z, z = zs.getD k 0 := ⟨_, rfl⟩
            rw [← hze] at HK HSk
            generalize rvR m63 hold (subS ss ns (k : Int)) (cntS ns (k : Int) ss.length) = rv at *
            have hDl : D < wr.heap.size := (World.ownsRow.lt hO.out D rfl).2
            clear hz hze
            go_wp2_with fail
            refine (HK.out _).mono ?_
            rintro e w6 ⟨rfl, hB⟩
            have B6 := Lib.hid (hBe.out.trans (hB.mono (by omega)))
            have O6 := Lib.hid (row_below hO.out hB)
            have hcy : w6.cell? ⟨D, k, none⟩ = some (.int .i64 ((fill zs k).getD k 0)) := (O6.out.cellAt k (by omega)).trans (cellOf (by rw [HFk.out, HLL.out]; exact hlt))
            have hfy : w6.frozen? ⟨D, k, none⟩ = false := O6.out.frozenAt k
            clear hB hcell
            go_wp2
            go_roundw
            case rel =>
              have h := (O6.out.stored k (Value.int .i64 z)).1
              rw [← List.map_set, HSk.out] at h
              exact ⟨k + 1, by omega, by go_num, Lib.hid h, Lib.hid (B6.out.setCell (p := ⟨D, k, none⟩) (Nat.le_refl _) _)⟩
            case measure => simp [intOf]; omega
          · have hkn : k = M := by omega
            subst hkn
            have e : fill zs k = zs := by rw [← HLL.out]; exact fill_all zs
            have HI := Lib.hid (show Own wr w.heap.size (.slice (some ⟨D, 0, none⟩) k k) zs by
              have h := hO.out
              rw [e] at h
              have h2 : Own wr D (.slice (some ⟨D, 0, none⟩) k k) zs := by
                unfold Own
                rw [HLL.out]
                exact h
              exact h2.mono HSZ.out)
            have BF := Lib.hid (BW.out.trans (hBe.out.mono HSZ.out))
            clear e
            go_wp2
            go_ret2
            exact ⟨_, rfl, HI.out, BF.out⟩
  · rw [leftF_bad rfl h0]
    generalize askS m63 ss (inB hold 1 2000) = c at *
    have hcb : (c != 0) = true := by simp [h0]
    clear h hs hN hn hnn
    go_enter Tryd.func18, Tryd.ntmps18
    go_wp2_with fail
    refine (HC.out _ (HP.out.below X0.out.under) (HS.out.below X0.out.under)).mono ?_
    rintro e w1 ⟨rfl, hB⟩
    have X1 := Lib.hid (box1_below X0.out hB)
    clear hB
    go_wp2
    go_ret2
    exact ⟨_, rfl, ⟨rfl, .inl ⟨rfl, rfl⟩⟩, X1.out.under⟩
end Go.Proofs.YtaanjjmochfhgaaDoor
