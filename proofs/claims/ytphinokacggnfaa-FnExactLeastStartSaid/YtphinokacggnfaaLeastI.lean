/-
  No statement is proved here: LeastStart in the program; condition: at most 1048576 moves.
-/
import Derived.Test.YtphinokacggnfaaLeastM
import Derived.Test.YtphinokacggnfaaBring
namespace Go.Proofs.Ytphinokacggnfaa
open Go.ChangeShapes Go.WideShapes Go.ChangeAt Go.RowKit


set_option maxRecDepth 100000 in
set_option maxHeartbeats 8000000 in
theorem implLeast_any (v : Value) (ys : List Mv) (w : World) (h : Mvs w v ys) (hn : ys.length ≤ 1048576) :
    Calls Try.prog 23 #[v] w fun e w' => e = .returned (.tuple #[pval (leastF ys).1, .int .i64 (leastF ys).2]) ∧ Below w.heap.size w w' := by
  obtain ⟨W0, hW0⟩ : ∃ W0, W0 = (w.alloc (.cells #[.int .i32 0, .int .i32 0, .int .i32 0, .int .i32 0, .int .i32 0] 31)) := ⟨_, rfl⟩
  have A0 : Hid (Box5 W0 w.heap.size (fun _ => 0)) := Lib.hid (by
    rw [hW0]
    exact Box5.made w _ (fun _ => 0))
  have B0 : Hid (Below w.heap.size w W0) := Lib.hid (by rw [hW0]; go_grown)
  have HW0 := Lib.hid hW0
  have hsz : W0.heap.size = w.heap.size + 1 := by rw [hW0]; simp
  clear hW0
  have HV := Lib.hid (implMvs_any v ys W0 (h.below B0.out) hn)
  obtain ⟨a, cap, rfl⟩ := h.len
  have HP := Lib.hid h.at
  have HSZ := Lib.hid hsz
  clear h hsz
  cases hv : isMvs ys with
  | false =>
    rw [hv] at HV
    rw [leastF_no hv]
    clear hv
    go_enter Try.func23, Try.ntmps23
    go_wp2_with fail
    rw [← HW0.out]
    refine HV.out.mono ?_
    rintro e w1 ⟨rfl, hB⟩
    have T1 := Lib.hid (B0.out.trans (hB.mono B0.out.size))
    have a0 := A0.out.below hB
    have r0 := a0.1 0 (by omega)
    have r1 := a0.1 1 (by omega)
    have r2 := a0.1 2 (by omega)
    have r3 := a0.1 3 (by omega)
    have r4 := a0.1 4 (by omega)
    have f0 := a0.2
    have G := Lib.hid (a0.put5 (fun _ => 0))
    clear hB a0
    go_wp2_with fail
    obtain ⟨e0, e1⟩ := G.out
    have g0 := e0 0 (by omega)
    have g1 := e0 1 (by omega)
    have g2 := e0 2 (by omega)
    have g3 := e0 3 (by omega)
    have g4 := e0 4 (by omega)
    refine bodyPost_ret (v := .tuple #[.agg #[.int .i32 0, .int .i32 0, .int .i32 0, .int .i32 0, .int .i32 0], .int .i64 1]) (by simp [results, go_sem, g0, g1, g2, g3, g4, Try.f23]) rfl ?_
    exact ⟨rfl, below_set5 T1.out (Nat.le_refl _) (fun _ => 0)⟩
  | true =>
    rw [hv] at HV
    rw [leastF_yes hv]
    obtain ⟨hall, h60⟩ := isMvs_of hv
    have HIN := Lib.hid (bringTo_in (c := 0) (by omega) zeroP_in hall)
    have HLN := Lib.hid (leastTo_in hall)
    have HGE := Lib.hid (leastTo_ge (ms := ys))
    have HOK := Lib.hid (allMv_get hall)
    clear hv hall hn
    obtain ⟨n, hln⟩ : ∃ n, n = ys.length := ⟨_, rfl⟩
    rw [← hln] at HP HV HIN HLN HOK h60 ⊢
    clear hln
    go_enter Try.func23, Try.ntmps23
    go_wp2_with fail
    rw [← HW0.out]
    refine HV.out.mono ?_
    rintro e w1 ⟨rfl, hB⟩
    obtain ⟨W2, hW2⟩ : ∃ W2, W2 = ((w1.alloc (.cells #[.int .i32 0, .int .i32 0, .int .i32 0, .int .i32 0, .int .i32 0] 31)).alloc (.cells #[.int .i32 0, .int .i32 0, .int .i32 0, .int .i32 0, .int .i32 0] 31)) := ⟨_, rfl⟩
    have hlt1 : w.heap.size < w1.heap.size := by have := hB.size; have := HSZ.out; omega
    have T1 := Lib.hid (B0.out.trans (hB.mono B0.out.size))
    have al1 := (Below.refl w1.heap.size w1).alloc (Nat.le_refl _) (.cells #[.int .i32 0, .int .i32 0, .int .i32 0, .int .i32 0, .int .i32 0] 31)
    have al2 : Below w1.heap.size w1 W2 := by rw [hW2]; exact al1.alloc (by simp) _
    have T2 : Hid (Below w.heap.size w W2) := Lib.hid (T1.out.trans (al2.mono T1.out.size))
    have a0 : Hid (Box5 W2 w.heap.size (fun _ => 0)) := Lib.hid ((A0.out.below hB).below al2)
    have a1 : Hid (Box5 W2 w1.heap.size (fun _ => 0)) := Lib.hid (by rw [hW2]; exact (Box5.made w1 _ (fun _ => 0)).below ((Below.refl _ _).alloc (Nat.le_refl _) _))
    have a2 : Hid (Box5 W2 (w1.heap.size + 1) (fun _ => 0)) := Lib.hid (by
      rw [hW2]
      have := Box5.made (w1.alloc (.cells #[.int .i32 0, .int .i32 0, .int .i32 0, .int .i32 0, .int .i32 0] 31)) 31 (fun _ => 0)
      simpa only [World.size_alloc] using this)
    have HW2 := Lib.hid hW2
    have HL1 := Lib.hid hlt1
    clear hB hW2 hlt1 al1 al2
    go_wp2_with fail
    rw [← HW2.out]
    generalize w1.heap.size = nb at *
    go_loopw [14] (fun i wr => ∃ k : Nat, k ≤ n ∧ i = .int .i64 k ∧ Hid (Box5 wr w.heap.size (fun _ => 0)) ∧ Hid (Box5 wr (nb + 1) (leastTo ys k)) ∧ Hid (Box5 wr nb (net0 ys k)) ∧ Hid (Below w.heap.size w wr)) (fun i _ => n - (intOf i).toNat)
    case atStart => exact ⟨0, Nat.zero_le _, rfl, a0, a2, a1, T2⟩
    case round =>
      obtain ⟨k, hk, rfl, h0, h1, h2, hB⟩ := hrel
      by_cases hlt : k < n
      · obtain ⟨b, off, rfl, hb, hc⟩ := HP.out (by omega)
        have hck := hc k hlt
        have hok := HOK.out k hlt
        have hin := HIN.out k hk
        have hln := HLN.out k hk
        have hge := HGE.out k
        have HS := Lib.hid (show net0 ys (k + 1) = bringF (net0 ys k) (atMv ys k) from rfl)
        have HLS := Lib.hid (show leastTo ys (k + 1) = mid (leastTo ys k) (net0 ys (k + 1)) 5 from rfl)
        rw [HS.out] at HLS
        generalize atMv ys k = y at hck hok HS HLS
        obtain ⟨y0, y1, g⟩ := y
        obtain ⟨p, q, rfl, rfl, hp3, hq1, hq5, hpq, hg0, hg1⟩ := okMv_parts hok
        generalize leastTo ys k = L at h1 HLS hln hge
        generalize hf0 : net0 ys k = f at h2 HS hge HLS
        rw [show bringTo (fun _ => 0) ys k = f from hf0] at hin
        clear hf0
        have d0 := (hB.out.cell (p := ⟨b, _, none⟩) hb).trans hck.1
        have d1 := (hB.out.cell (p := ⟨b, _, none⟩) hb).trans hck.2.1
        have d2 := (hB.out.cell (p := ⟨b, _, none⟩) hb).trans hck.2.2
        obtain ⟨W3, hW3⟩ : ∃ W3, W3 = wr.alloc (.cells #[.int .i8 p, .int .i8 q, .int .i16 g] 53) := ⟨_, rfl⟩
        have al : Below wr.heap.size wr W3 := by rw [hW3]; exact (Below.refl wr.heap.size wr).alloc (Nat.le_refl _) _
        have m0 : Hid (W3.cell? ⟨wr.heap.size, 0, none⟩ = some (.int .i8 p)) := Lib.hid (by rw [hW3]; simp [go_sem])
        have hlw : wr.heap.size < W3.heap.size := by rw [hW3]; simp
        have HC := Lib.hid (bring_any nb f p q g W3 (h2.out.below al) (by omega) hq5 hpq (by omega) hg1 (hin.mono (by omega)))
        have hbr := bringF_eq (f := f) (g := g) hpq
        have Z0 := Lib.hid (h0.out.below al)
        have Z1 := Lib.hid (h1.out.below al)
        have TB := Lib.hid (hB.out.trans (al.mono hB.out.size))
        have hm1 := h2.out.lt
        have HST := Lib.hid (fun j hj => (least_step (f := f) (L := L) (g := g) hpq (by omega) hge j hj))
        have ip := hin p
        have lp := hln p
        have HW3 := Lib.hid hW3
        have hM := Lib.hid (And.intro hm1 hlw)
        clear hck hin hc hok h0 h1 h2 hB al hW3 hm1 hlw hge hln
        go_wp2_with fail
        rw [← HW3.out]
        refine HC.out.mono ?_
        rintro e w3 ⟨rfl, hx, hg⟩
        obtain ⟨hm1, hlw⟩ := hM.out
        have hne : w.heap.size ≠ nb := by have := HL1.out; omega
        have E := (TB.out.grown hg TB.out.size (fun j hj => by have := HL1.out; have := Option.some.inj hj; omega))
        have E0 := (Z0.out.grown hg (by intro e; exact hne (Option.some.inj e).symm))
        have E1 := (Z1.out.grown hg (by intro e; have := Option.some.inj e; omega))
        have c0 := hg.cell m0.out (by intro e; have := Option.some.inj e; simp only at this; omega)
        have hxp := hx.1 p (by omega)
        rw [hbr, putP_ne (fun e => hpq e.symm)] at hxp
        have hpp : putP f p (f p - g) p = f p - g := if_pos rfl
        rw [hpp] at hxp
        have cl := E1.1 p (by omega)
        have fz := E1.2
        rw [← HS.out] at hx
        have EB := Lib.hid (E.setCell (p := ⟨nb + 1, p, none⟩) (by have := HL1.out; simp only; omega) (.int .i32 (max (L p) (-(f p - g))))).drew
        have EX := Lib.hid (hx.far (C := nb + 1) (by omega) p (.int .i32 (max (L p) (-(f p - g))))).drew
        have EZ := Lib.hid (E0.far (C := nb + 1) (by have := HL1.out; omega) p (.int .i32 (max (L p) (-(f p - g))))).drew
        have EL := Lib.hid ((E1.put p (by omega) (max (L p) (-(f p - g)))).eq HST.out).drew
        rw [← HLS.out] at EL
        clear hx hg E E0 E1 hbr hpp
        generalize f p = fp at *
        generalize L p = lp0 at *
        have hmx : -(fp - g) = g - fp := by omega
        go_wp2_with fail
        go_region
        all_goals
          go_wp2_with fail
          go_roundw
          case rel =>
            have hm : (if lp0 < g - fp then g - fp else lp0) = max lp0 (-(fp - g)) := by split <;> omega
            exact ⟨k + 1, by omega, by go_num, by rw [hm]; exact EZ, by rw [hm]; exact EL, by rw [hm]; exact EX, by rw [hm]; exact EB⟩
          case measure => simp [intOf]; omega
      · have hkn : k = n := by omega
        subst hkn
        have c0 := h1.out.1 0 (by omega)
        have c1 := h1.out.1 1 (by omega)
        have c2 := h1.out.1 2 (by omega)
        have c3 := h1.out.1 3 (by omega)
        have c4 := h1.out.1 4 (by omega)
        have r0 := h0.out.1 0 (by omega)
        have r1 := h0.out.1 1 (by omega)
        have r2 := h0.out.1 2 (by omega)
        have r3 := h0.out.1 3 (by omega)
        have r4 := h0.out.1 4 (by omega)
        have f0 := h0.out.2
        have G := Lib.hid (h0.out.put5 (leastTo ys k))
        have GB := Lib.hid (below_set5 hB.out (Nat.le_refl _) (leastTo ys k))
        generalize hF : leastTo ys k = f at *
        have HF := Lib.hid hF
        clear h0 h1 hB hF h2
        go_wp2_with fail
        obtain ⟨e0, e1⟩ := G.out
        have g0 := e0 0 (by omega)
        have g1 := e0 1 (by omega)
        have g2 := e0 2 (by omega)
        have g3 := e0 3 (by omega)
        have g4 := e0 4 (by omega)
        refine bodyPost_ret (v := .tuple #[.agg #[.int .i32 (f 0), .int .i32 (f 1), .int .i32 (f 2), .int .i32 (f 3), .int .i32 (f 4)], .int .i64 0]) (by simp [results, go_sem, g0, g1, g2, g3, g4, Try.f23]) rfl ?_
        exact ⟨by rw [HF.out], GB.out⟩
end Go.Proofs.Ytphinokacggnfaa
