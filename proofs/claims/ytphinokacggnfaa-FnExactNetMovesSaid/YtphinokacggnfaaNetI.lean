/-
  No statement is proved here: NetMoves in the program; condition: at most 1048576 moves.
-/
import Derived.Test.YtphinokacggnfaaBring
namespace Go.Proofs.Ytphinokacggnfaa
open Go.ChangeShapes Go.WideShapes Go.ChangeAt Go.RowKit

set_option maxRecDepth 100000 in
set_option maxHeartbeats 8000000 in
theorem implNet_any (v : Value) (ys : List Mv) (w : World) (h : Mvs w v ys) (hn : ys.length ≤ 1048576) :
    Calls Try.prog 20 #[v] w fun e w' => e = .returned (.tuple #[pval (netF ys).1, .int .i64 (netF ys).2]) ∧ Below w.heap.size w w' := by
  obtain ⟨W0, hW0⟩ : ∃ W0, W0 = (w.alloc (.cells #[.int .i32 0, .int .i32 0, .int .i32 0, .int .i32 0, .int .i32 0] 31)) := ⟨_, rfl⟩
  have A0 : Hid (Box5 W0 w.heap.size (fun _ => 0)) := Lib.hid (by
    rw [hW0]
    exact Box5.made w _ (fun _ => 0))
  have B0 : Hid (Below w.heap.size w W0) := Lib.hid (by rw [hW0]; go_grown)
  have HW0 := Lib.hid hW0
  have hsz : W0.heap.size = w.heap.size + 1 := by rw [hW0]; simp
  clear hW0
  have HV := Lib.hid (implMvs_any v ys W0 (h.below B0.out) hn)
  obtain ⟨a, cap, rfl⟩ := h.len
  have HP := Lib.hid h.at
  have HSZ := Lib.hid hsz
  clear h hsz
  cases hv : isMvs ys with
  | false =>
    rw [hv] at HV
    rw [netF_no hv]
    clear hv
    go_enter Try.func20, Try.ntmps20
    go_wp2_with fail
    rw [← HW0.out]
    refine HV.out.mono ?_
    rintro e w1 ⟨rfl, hB⟩
    have T1 := Lib.hid (B0.out.trans (hB.mono B0.out.size))
    have a0 := A0.out.below hB
    have r0 := a0.1 0 (by omega)
    have r1 := a0.1 1 (by omega)
    have r2 := a0.1 2 (by omega)
    have r3 := a0.1 3 (by omega)
    have r4 := a0.1 4 (by omega)
    have f0 := a0.2
    have G := Lib.hid (a0.put5 (fun _ => 0))
    clear hB a0
    go_wp2_with fail
    obtain ⟨e0, e1⟩ := G.out
    have g0 := e0 0 (by omega)
    have g1 := e0 1 (by omega)
    have g2 := e0 2 (by omega)
    have g3 := e0 3 (by omega)
    have g4 := e0 4 (by omega)
    refine bodyPost_ret (v := .tuple #[.agg #[.int .i32 0, .int .i32 0, .int .i32 0, .int .i32 0, .int .i32 0], .int .i64 1]) (by simp [results, go_sem, g0, g1, g2, g3, g4, Try.f20]) rfl ?_
    exact ⟨rfl, below_set5 T1.out (Nat.le_refl _) (fun _ => 0)⟩
  | true =>
    rw [hv] at HV
    rw [netF_yes hv]
    obtain ⟨hall, h60⟩ := isMvs_of hv
    have HIN := Lib.hid (bringTo_in (c := 0) (by omega) zeroP_in hall)
    have HOK := Lib.hid (allMv_get hall)
    clear hv hall hn
    obtain ⟨n, hln⟩ : ∃ n, n = ys.length := ⟨_, rfl⟩
    rw [← hln] at HP HV HIN HOK h60 ⊢
    clear hln
    go_enter Try.func20, Try.ntmps20
    go_wp2_with fail
    rw [← HW0.out]
    refine HV.out.mono ?_
    rintro e w1 ⟨rfl, hB⟩
    obtain ⟨W2, hW2⟩ : ∃ W2, W2 = (w1.alloc (.cells #[.int .i32 0, .int .i32 0, .int .i32 0, .int .i32 0, .int .i32 0] 31)) := ⟨_, rfl⟩
    have hlt1 : w.heap.size < w1.heap.size := by have := hB.size; have := HSZ.out; omega
    have T1 := Lib.hid (B0.out.trans (hB.mono B0.out.size))
    have T2 : Hid (Below w.heap.size w W2) := Lib.hid (by rw [hW2]; exact T1.out.alloc T1.out.size _)
    have a0 : Hid (Box5 W2 w.heap.size (fun _ => 0)) := Lib.hid (by rw [hW2]; exact (A0.out.below hB).below ((Below.refl _ _).alloc (Nat.le_refl _) _))
    have a1 : Hid (Box5 W2 w1.heap.size (fun _ => 0)) := Lib.hid (by rw [hW2]; exact Box5.made w1 _ (fun _ => 0))
    have HW2 := Lib.hid hW2
    have HL1 := Lib.hid hlt1
    clear hB hW2 hlt1
    go_wp2_with fail
    rw [← HW2.out]
    generalize w1.heap.size = nb at *
    go_loopw [13] (fun i wr => ∃ k : Nat, k ≤ n ∧ i = .int .i64 k ∧ Hid (Box5 wr w.heap.size (fun _ => 0)) ∧ Hid (Box5 wr nb (bringTo (fun _ => 0) ys k)) ∧ Hid (Below w.heap.size w wr)) (fun i _ => n - (intOf i).toNat)
    case atStart => exact ⟨0, Nat.zero_le _, rfl, a0, a1, T2⟩
    case round =>
      obtain ⟨k, hk, rfl, h0, h1, hB⟩ := hrel
      by_cases hlt : k < n
      · obtain ⟨b, off, rfl, hb, hc⟩ := HP.out (by omega)
        have hck := hc k hlt
        have hok := HOK.out k hlt
        have hin := HIN.out k hk
        have HS := Lib.hid (show bringTo (fun _ => 0) ys (k + 1) = bringF (bringTo (fun _ => 0) ys k) (atMv ys k) from rfl)
        generalize atMv ys k = y at hck hok HS
        obtain ⟨y0, y1, g⟩ := y
        obtain ⟨p, q, rfl, rfl, hp3, hq1, hq5, hpq, hg0, hg1⟩ := okMv_parts hok
        generalize bringTo (fun _ => 0) ys k = f at h1 HS hin
        have d0 := (hB.out.cell (p := ⟨b, _, none⟩) hb).trans hck.1
        have d1 := (hB.out.cell (p := ⟨b, _, none⟩) hb).trans hck.2.1
        have d2 := (hB.out.cell (p := ⟨b, _, none⟩) hb).trans hck.2.2
        have al := (Below.refl wr.heap.size wr).alloc (Nat.le_refl _) (.cells #[.int .i8 p, .int .i8 q, .int .i16 g] 53)
        have HC := Lib.hid (bring_any nb f p q g _ (h1.out.below al) (by omega) hq5 hpq (by omega) hg1 (hin.mono (by omega)))
        have Z0 := Lib.hid (h0.out.below al)
        have TB := Lib.hid (hB.out.trans (al.mono hB.out.size))
        clear hck hin hc hok h0 h1 hB al
        go_wp2_with fail
        refine HC.out.mono ?_
        rintro e w3 ⟨rfl, hx, hg⟩
        have hne : w.heap.size ≠ nb := by have := HL1.out; omega
        have E := Lib.hid (TB.out.grown hg TB.out.size (fun j hj => by have := HL1.out; have := Option.some.inj hj; omega))
        have E0 := Lib.hid (Z0.out.grown hg (by intro e; exact hne (Option.some.inj e).symm))
        rw [← HS.out] at hx
        have E1 := Lib.hid hx
        clear hx hg
        go_wp2_with fail
        go_roundw
        case rel => exact ⟨k + 1, by omega, by go_num, E0, E1, E⟩
        case measure => simp [intOf]; omega
      · have hkn : k = n := by omega
        subst hkn
        have c0 := h1.out.1 0 (by omega)
        have c1 := h1.out.1 1 (by omega)
        have c2 := h1.out.1 2 (by omega)
        have c3 := h1.out.1 3 (by omega)
        have c4 := h1.out.1 4 (by omega)
        have r0 := h0.out.1 0 (by omega)
        have r1 := h0.out.1 1 (by omega)
        have r2 := h0.out.1 2 (by omega)
        have r3 := h0.out.1 3 (by omega)
        have r4 := h0.out.1 4 (by omega)
        have f0 := h0.out.2
        have G := Lib.hid (h0.out.put5 (bringTo (fun _ => 0) ys k))
        have GB := Lib.hid (below_set5 hB.out (Nat.le_refl _) (bringTo (fun _ => 0) ys k))
        generalize hF : bringTo (fun _ => 0) ys k = f at *
        have HF := Lib.hid hF
        clear h0 h1 hB hF
        go_wp2_with fail
        obtain ⟨e0, e1⟩ := G.out
        have g0 := e0 0 (by omega)
        have g1 := e0 1 (by omega)
        have g2 := e0 2 (by omega)
        have g3 := e0 3 (by omega)
        have g4 := e0 4 (by omega)
        refine bodyPost_ret (v := .tuple #[.agg #[.int .i32 (f 0), .int .i32 (f 1), .int .i32 (f 2), .int .i32 (f 3), .int .i32 (f 4)], .int .i64 0]) (by simp [results, go_sem, g0, g1, g2, g3, g4, Try.f20]) rfl ?_
        exact ⟨by rw [HF.out], GB.out⟩
end Go.Proofs.Ytphinokacggnfaa
