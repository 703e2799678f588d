/-
  No statement is proved here: LeastStart as the document's own text tells it; condition: at most 1048576 moves.
-/
import Derived.Test.YtphinokacggnfaaLeastM
import Derived.Test.YtphinokacggnfaaMax
import Derived.Test.YtphinokacggnfaaBox64
import Derived.Deep.RegionHeld3
namespace Go.Proofs.Ytphinokacggnfaa
open Go.ChangeShapes Go.WideShapes Go.ChangeAt Go.RowKit


set_option maxRecDepth 100000 in
set_option maxHeartbeats 8000000 in
theorem specLeast_any (v : Value) (ys : List Mv) (w : World) (h : Mvs w v ys) (hn : ys.length ≤ 1048576) :
    Calls Try.prog 22 #[v] w fun e w' => e = .returned (.tuple #[pval (leastF ys).1, .int .i64 (leastF ys).2]) ∧ Below w.heap.size w w' := by
  obtain ⟨W0, hW0⟩ : ∃ W0, W0 = ((w.alloc (.cells #[.int .i32 0, .int .i32 0, .int .i32 0, .int .i32 0, .int .i32 0] 31)).alloc (.cells #[.int .i32 0, .int .i32 0, .int .i32 0, .int .i32 0, .int .i32 0] 31)) := ⟨_, rfl⟩
  have A0 : Hid (Box5 W0 w.heap.size (fun _ => 0)) := Lib.hid (by
    rw [hW0]
    exact ((Box5.made w _ (fun _ => 0)).below ((Below.refl _ _).alloc (Nat.le_refl _) _)))
  have A1 : Hid (Box5 W0 (w.heap.size + 1) (fun _ => 0)) := Lib.hid (by
    rw [hW0]
    have := (Box5.made (w.alloc (.cells #[.int .i32 0, .int .i32 0, .int .i32 0, .int .i32 0, .int .i32 0] 31)) 31 (fun _ => 0))
    simpa only [World.size_alloc] using this)
  have B0 : Hid (Below w.heap.size w W0) := Lib.hid (by rw [hW0]; go_grown)
  have HW0 := Lib.hid hW0
  have hsz : W0.heap.size = w.heap.size + 2 := by rw [hW0]; simp
  clear hW0
  have HV := Lib.hid (specMvs0_any v ys W0 (h.below B0.out) hn)
  obtain ⟨a, cap, rfl⟩ := h.len
  have HP := Lib.hid h.at
  have HSZ := Lib.hid hsz
  clear h hsz
  cases hv : isMvs ys with
  | false =>
    rw [hv] at HV
    rw [leastF_no hv]
    clear hv
    go_enter Try.func22, Try.ntmps22
    go_wp2_with fail
    rw [← HW0.out]
    refine HV.out.mono ?_
    rintro e w1 ⟨rfl, hB⟩
    have T1 := Lib.hid (B0.out.trans (hB.mono B0.out.size))
    have a0 := A0.out.below hB
    have a1 := A1.out.below hB
    have c0 := a1.1 0 (by omega)
    have c1 := a1.1 1 (by omega)
    have c2 := a1.1 2 (by omega)
    have c3 := a1.1 3 (by omega)
    have c4 := a1.1 4 (by omega)
    have r0 := a0.1 0 (by omega)
    have r1 := a0.1 1 (by omega)
    have r2 := a0.1 2 (by omega)
    have r3 := a0.1 3 (by omega)
    have r4 := a0.1 4 (by omega)
    have f0 := a0.2
    have G := Lib.hid (a0.put5 (fun _ => 0))
    clear hB a0 a1
    go_wp2_with fail
    obtain ⟨e0, e1⟩ := G.out
    have g0 := e0 0 (by omega)
    have g1 := e0 1 (by omega)
    have g2 := e0 2 (by omega)
    have g3 := e0 3 (by omega)
    have g4 := e0 4 (by omega)
    refine bodyPost_ret (v := .tuple #[.agg #[.int .i32 0, .int .i32 0, .int .i32 0, .int .i32 0, .int .i32 0], .int .i64 1]) (by simp [results, go_sem, g0, g1, g2, g3, g4, Try.f22]) rfl ?_
    exact ⟨rfl, below_set5 T1.out (Nat.le_refl _) (fun _ => 0)⟩
  | true =>
    rw [hv] at HV
    rw [leastF_yes hv]
    obtain ⟨hall, h60⟩ := isMvs_of hv
    have HIN := Lib.hid (bringTo_in (c := 0) (by omega) zeroP_in hall)
    have HLN := Lib.hid (leastTo_in hall)
    have HOK := Lib.hid (allMv_get hall)
    clear hv hall hn
    obtain ⟨n, hln⟩ : ∃ n, n = ys.length := ⟨_, rfl⟩
    rw [← hln] at HP HV HIN HLN HOK h60 ⊢
    clear hln
    go_enter Try.func22, Try.ntmps22
    go_wp2_with fail
    rw [← HW0.out]
    refine HV.out.mono ?_
    rintro e w1 ⟨rfl, hB⟩
    obtain ⟨W2, hW2⟩ : ∃ W2, W2 = (w1.alloc (.cells #[.int .i64 0, .int .i64 0, .int .i64 0, .int .i64 0, .int .i64 0] 58)) := ⟨_, rfl⟩
    have hlt1 : w.heap.size + 1 < w1.heap.size := by have := hB.size; have := HSZ.out; omega
    have T1 := Lib.hid (B0.out.trans (hB.mono B0.out.size))
    have T2 : Hid (Below w.heap.size w W2) := Lib.hid (by rw [hW2]; exact T1.out.alloc T1.out.size _)
    have a0 : Hid (Box5 W2 w.heap.size (fun _ => 0)) := Lib.hid (by rw [hW2]; exact (A0.out.below hB).below ((Below.refl _ _).alloc (Nat.le_refl _) _))
    have a1 : Hid (Box5 W2 (w.heap.size + 1) (fun _ => 0)) := Lib.hid (by rw [hW2]; exact (A1.out.below hB).below ((Below.refl _ _).alloc (Nat.le_refl _) _))
    have a2 : Hid (Box64 W2 w1.heap.size (fun _ => 0)) := Lib.hid (by rw [hW2]; exact Box64.made w1 _ (fun _ => 0))
    have HW2 := Lib.hid hW2
    have HL1 := Lib.hid hlt1
    clear hB hW2 hlt1
    go_wp2_with fail
    rw [← HW2.out]
    generalize w1.heap.size = nb at *
    go_loopw [6] (fun i wr => ∃ k : Nat, k ≤ n ∧ i = .int .i64 k ∧ Hid (Box5 wr w.heap.size (fun _ => 0)) ∧ Hid (Box5 wr (w.heap.size + 1) (leastTo ys k)) ∧ Hid (Box64 wr nb (net0 ys k)) ∧ Hid (Below w.heap.size w wr)) (fun i _ => n - (intOf i).toNat)
    case atStart => exact ⟨0, Nat.zero_le _, rfl, a0, a1, a2, T2⟩
    case round =>
      obtain ⟨k, hk, rfl, h0, h1, h2, hB⟩ := hrel
      by_cases hlt : k < n
      · have hki : (k : Int) < (n : Int) := by omega
        obtain ⟨b, off, rfl, hb, hc⟩ := HP.out (by omega)
        have hck := hc k hlt
        have hok := HOK.out k hlt
        have hin := HIN.out k hk
        have hin1 := HIN.out (k + 1) hlt
        have hln := HLN.out k hk
        have HS := Lib.hid (show net0 ys (k + 1) = bringF (net0 ys k) (atMv ys k) from rfl)
        have HLS := Lib.hid (show leastTo ys (k + 1) = mid (leastTo ys k) (net0 ys (k + 1)) 5 from rfl)
        generalize atMv ys k = y at hck hok HS
        obtain ⟨y0, y1, g⟩ := y
        obtain ⟨p, q, rfl, rfl, hp3, hq1, hq5, hpq, hg0, hg1⟩ := okMv_parts hok
        rw [bringF_eq hpq] at HS
        generalize hf1 : net0 ys (k + 1) = f1 at HS HLS
        rw [show bringTo (fun _ => 0) ys (k + 1) = f1 from hf1] at hin1
        generalize leastTo ys k = L at h1 HLS hln
        generalize hf0 : net0 ys k = f at h2 HS
        rw [show bringTo (fun _ => 0) ys k = f from hf0] at hin
        have HF1 := Lib.hid hf1
        clear hf0 hf1
        have d0 := (hB.out.cell (p := ⟨b, _, none⟩) hb).trans hck.1
        have d1 := (hB.out.cell (p := ⟨b, _, none⟩) hb).trans hck.2.1
        have d2 := (hB.out.cell (p := ⟨b, _, none⟩) hb).trans hck.2.2
        have p0 := h2.out.1 p (by omega)
        have ip := hin p
        have iq := hin q
        have fz := h2.out.2
        have hn0 : nb ≠ w.heap.size := by have := HL1.out; omega
        have hn1 : nb ≠ w.heap.size + 1 := by have := HL1.out; omega
        have hnw : w.heap.size ≤ nb := by have := HL1.out; omega
        have P1 := (h2.out.put p (by omega) (f p - g)).drew
        have q0' := P1.1 q (by omega)
        rw [putP_ne hpq] at q0'
        have PZ := (h0.out.far hn0 p (.int .i64 (f p - g))).drew
        have PY := (h1.out.far hn1 p (.int .i64 (f p - g))).drew
        have PB := (hB.out.setCell (p := ⟨nb, p, none⟩) hnw (.int .i64 (f p - g))).drew
        obtain ⟨W1, hW1⟩ : ∃ W1, W1 = (wr.setCell ⟨nb, p, none⟩ (.int .i64 (f p - g))).drew := ⟨_, rfl⟩
        rw [← hW1] at P1 q0' PZ PY PB
        have t0 := (PB.cell (p := ⟨b, _, none⟩) hb).trans hck.1
        have t1 := (PB.cell (p := ⟨b, _, none⟩) hb).trans hck.2.1
        have t2 := (PB.cell (p := ⟨b, _, none⟩) hb).trans hck.2.2
        have fz1 := P1.2
        have HW1 := Lib.hid hW1
        have Q1 := (P1.put q (by omega) (f q + g)).drew
        have QZ := (PZ.far hn0 q (.int .i64 (f q + g))).drew
        have QY := (PY.far hn1 q (.int .i64 (f q + g))).drew
        have QB := (PB.setCell (p := ⟨nb, q, none⟩) hnw (.int .i64 (f q + g))).drew
        rw [← HS.out] at Q1
        obtain ⟨W3, hW3⟩ : ∃ W3, W3 = (W1.setCell ⟨nb, q, none⟩ (.int .i64 (f q + g))).drew := ⟨_, rfl⟩
        rw [← hW3] at Q1 QZ QY QB
        have HQ1 := Lib.hid Q1
        have HQZ := Lib.hid QZ
        have HQY : Hid (Box5 W3 (w.heap.size + 1) (mid L f1 0)) := Lib.hid (by rw [mid_zero]; exact QY)
        have HQB := Lib.hid QB
        have HW3 := Lib.hid hW3
        have HIL := Lib.hid (mid_in (c := 300000) (f := L) (g := f1) (fun j => by have := hln j; omega) (fun j => by have := hin1 j; omega : Within f1 300000))
        have HI1 := Lib.hid (fun j => (by have := hin1 j; omega : -300000 ≤ f1 j ∧ f1 j ≤ 300000))
        have HN := Lib.hid (And.intro hn0 hn1)
        clear P1 PZ PY PB hW1 HS Q1 QZ QY QB hW3 hln hin1
        generalize f p = fp at *
        generalize f q = fq at *
        clear hck hin hc hok h0 h1 h2 hB
        go_wp2_with fail
        go_region
        rw [← HW1.out]
        clear p0 d0 d1 d2 fz
        go_wp2_with fail
        go_region
        rw [← HW3.out]
        clear q0' t0 t1 t2 fz1 ip iq
        go_wp2_with fail
        go_loopw [7] (fun i wr => ∃ j : Nat, j ≤ 5 ∧ i = .int .i64 j ∧ Hid (Box5 wr w.heap.size (fun _ => 0)) ∧ Hid (Box5 wr (w.heap.size + 1) (mid L f1 j)) ∧ Hid (Box64 wr nb f1) ∧ Hid (Below w.heap.size w wr)) (fun i _ => 5 - (intOf i).toNat)
        case atStart => exact ⟨0, by omega, rfl, HQZ, HQY, HQ1, HQB⟩
        case round =>
          obtain ⟨j, hj, rfl, k0, k1, k2, kB⟩ := hrel
          by_cases hlj : j < 5
          · have c0 := k1.out.1 j hlj
            have c1 := k2.out.1 j hlj
            have i0 : (0 : Int) ≤ (j : Int) := by omega
            have i1 : (j : Int) < 5 := by omega
            have hMS := Lib.hid (mid_step L f1 j)
            have b0 := HIL.out j j
            have b1 := HI1.out j
            have G1 := Lib.hid (k1.out.put j hlj (max (mid L f1 j j) (-(f1 j)))).drew
            rw [hMS.out] at G1
            have G0 := Lib.hid (k0.out.far (C := w.heap.size + 1) (by omega) j (.int .i32 (max (mid L f1 j j) (-(f1 j))))).drew
            have G2 := Lib.hid (k2.out.far (C := w.heap.size + 1) (fun e => HN.out.2 e.symm) j (.int .i32 (max (mid L f1 j j) (-(f1 j))))).drew
            have GB := Lib.hid (kB.out.setCell (p := ⟨w.heap.size + 1, j, none⟩) (by simp) (.int .i32 (max (mid L f1 j j) (-(f1 j))))).drew
            have fz2 := k1.out.2
            generalize mid L f1 j j = lj at *
            generalize hgj : f1 j = gj at *
            clear hgj k0 k1 k2 kB
            have hmx0 : -300000 ≤ max lj (-gj) := by omega
            have hmx1 : max lj (-gj) ≤ 300000 := by omega
            have e0 : IntKind.i64.wrap lj = lj := by simp [IntKind.wrap, IntKind.bits, IntKind.signed]; omega
            have e1 : IntKind.i64.wrap (-gj) = -gj := by simp [IntKind.wrap, IntKind.bits, IntKind.signed]; omega
            obtain ⟨mx, hmx⟩ : ∃ mx, mx = max lj (-gj) := ⟨_, rfl⟩
            have HM := Lib.hid fun wx => (max_any (IntKind.i64.wrap lj) (IntKind.i64.wrap (-gj)) wx).mono fun e w2 h => (by rw [e0, e1, ← hmx] at h; exact h : e = .returned (.int .i64 mx) ∧ wx = w2)
            rw [← hmx] at G0 G1 G2 GB hmx0 hmx1
            clear hmx e0 e1
            go_wp2_with fail
            go_region_with (go_at_call 44; refine (HM.out _).mono ?_; rintro e w2 ⟨rfl, rfl⟩)
            all_goals
              go_wp2_with fail
              go_roundw
              case rel => exact ⟨j + 1, by omega, by go_num, G0, G1, G2, GB⟩
              case measure => simp [intOf]; omega
          · have hj5 : j = 5 := by omega
            subst hj5
            rw [← HLS.out] at k1
            go_wp2_with fail
            go_roundw
            case rel => exact ⟨k + 1, by omega, by go_num, k0, k1, by rw [HF1.out]; exact k2, kB⟩
            case measure => simp [intOf]; omega
      · have hkn : k = n := by omega
        subst hkn
        have c0 := h1.out.1 0 (by omega)
        have c1 := h1.out.1 1 (by omega)
        have c2 := h1.out.1 2 (by omega)
        have c3 := h1.out.1 3 (by omega)
        have c4 := h1.out.1 4 (by omega)
        have r0 := h0.out.1 0 (by omega)
        have r1 := h0.out.1 1 (by omega)
        have r2 := h0.out.1 2 (by omega)
        have r3 := h0.out.1 3 (by omega)
        have r4 := h0.out.1 4 (by omega)
        have f0 := h0.out.2
        have G := Lib.hid (h0.out.put5 (leastTo ys k))
        have GB := Lib.hid (below_set5 hB.out (Nat.le_refl _) (leastTo ys k))
        generalize hF : leastTo ys k = f at *
        have HF := Lib.hid hF
        clear h0 h1 hB hF h2
        go_wp2_with fail
        obtain ⟨e0, e1⟩ := G.out
        have g0 := e0 0 (by omega)
        have g1 := e0 1 (by omega)
        have g2 := e0 2 (by omega)
        have g3 := e0 3 (by omega)
        have g4 := e0 4 (by omega)
        refine bodyPost_ret (v := .tuple #[.agg #[.int .i32 (f 0), .int .i32 (f 1), .int .i32 (f 2), .int .i32 (f 3), .int .i32 (f 4)], .int .i64 0]) (by simp [results, go_sem, g0, g1, g2, g3, g4, Try.f22]) rfl ?_
        exact ⟨by rw [HF.out], GB.out⟩
end Go.Proofs.Ytphinokacggnfaa
