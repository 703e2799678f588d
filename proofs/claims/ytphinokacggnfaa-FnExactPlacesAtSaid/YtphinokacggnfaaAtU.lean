/-
  No statement is proved here: PlacesAt, FirstWrong and MakeMoves in the program; condition: at most 1048576 moves.
-/
import Derived.Test.YtphinokacggnfaaAtI
import Derived.Test.YtphinokacggnfaaAtT
namespace Go.Proofs.Ytphinokacggnfaa
open Go.ChangeShapes Go.WideShapes Go.ChangeAt Go.RowKit

theorem M0len {w : World} {v : Value} {ms : List Mv} (h : Mvs w v ms) : ∃ a c, v = .slice a ms.length c := h.len
set_option linter.unusedVariables false in
set_option maxRecDepth 100000 in
set_option maxHeartbeats 8000000 in
theorem implPlacesAt_any (f : Nat → Int) (v : Value) (ms : List Mv) (w : World) (h : Mvs w v ms) (hn : ms.length ≤ 1048576) (h5 : ∀ j, 5 ≤ j → f j = 0) (hr : ∀ j, j < 5 → -2147483648 ≤ f j ∧ f j ≤ 2147483647) :
    Calls Try.prog 32 #[pval f, v] w fun e w' => ∃ r, e = .returned (.tuple #[r, .int .i64 (placesF f ms).2]) ∧ OwnPl w' w.heap.size r (placesF f ms).1 ∧ Below w.heap.size w w' := by
  obtain ⟨va, vc, rfl⟩ := M0len h
  obtain ⟨W0, hW0⟩ : ∃ W0, W0 = (w.alloc (.cells #[.int .i32 (f 0), .int .i32 (f 1), .int .i32 (f 2), .int .i32 (f 3), .int .i32 (f 4)] 31)) := ⟨_, rfl⟩
  have A0 : Hid (Box5 W0 w.heap.size f) := Lib.hid (by rw [hW0]; exact Box5.made w _ f)
  have B0 : Hid (Below w.heap.size w W0) := Lib.hid (by rw [hW0]; go_grown)
  have HW0 := Lib.hid hW0
  have HM := Lib.hid (h.below B0.out)
  clear hW0
  have HOK := Lib.hid (areValid_any f W0)
  unfold pval at HOK
  have H5 := Lib.hid h5
  clear h hr h5
  cases h1 : okP f with
  | false =>
    rw [h1] at HOK
    rw [(at_no1 (ms := ms) h1).1]
    clear h1
    go_enter Try.func32, Try.ntmps32
    go_wp2_with fail
    rw [← HW0.out]
    refine HOK.out.mono ?_
    rintro e w1 ⟨rfl, hB⟩
    have T1 := Lib.hid (B0.out.trans (hB.mono B0.out.size))
    have X1 := Lib.hid (A0.out.below hB)
    have M1 := Lib.hid (HM.out.below hB)
    clear hB
    go_wp2_with fail
    go_returns
    exact ⟨_, rfl, (by simpa [OwnPl, cellsPl] using World.ownsRow_nil _ _ _ _), T1.out⟩
  | true =>
    rw [h1] at HOK
    have HIN : Hid (Within f 1000000) := Lib.hid fun j => (by
      by_cases hj : j < 5
      · have := okP_in h1 j hj
        omega
      · rw [H5.out j (by omega)]
        omega)
    cases h2 : isMvs ms with
    | false =>
      rw [(at_no2 (f := f) h2).1]
      clear h1
      go_enter Try.func32, Try.ntmps32
      go_wp2_with fail
      rw [← HW0.out]
      refine HOK.out.mono ?_
      rintro e w1 ⟨rfl, hB⟩
      have T1 := Lib.hid (B0.out.trans (hB.mono B0.out.size))
      have X1 := Lib.hid (A0.out.below hB)
      have M1 := Lib.hid (HM.out.below hB)
      clear hB
      have HV := Lib.hid (implMvs_any _ ms w1 M1.out hn)
      rw [h2] at HV
      clear h2
      go_wp2_with fail
      refine HV.out.mono ?_
      rintro e w2 ⟨rfl, hB⟩
      have T2 := Lib.hid (T1.out.trans (hB.mono T1.out.size))
      have X2 := Lib.hid (X1.out.below hB)
      have M2 := Lib.hid (M1.out.below hB)
      clear hB
      go_wp2_with fail
      go_returns
      exact ⟨_, rfl, (by simpa [OwnPl, cellsPl] using World.ownsRow_nil _ _ _ _), T2.out⟩
    | true =>
      have H2 := Lib.hid h2
      cases hw : wrongAt f ms with
      | some k =>
        rw [(at_some h1 h2 hw).1]
        have HMN := Lib.hid (madeN_some hw)
        have hkl : k < ms.length := wrongAt_lt hw
        have hkli : (k : Int) < (ms.length : Int) := by omega
        have hkne : ((k : Int) == (ms.length : Int)) = false := by simp; omega
        clear hw
        clear h1
        go_enter Try.func32, Try.ntmps32
        go_wp2_with fail
        rw [← HW0.out]
        refine HOK.out.mono ?_
        rintro e w1 ⟨rfl, hB⟩
        have T1 := Lib.hid (B0.out.trans (hB.mono B0.out.size))
        have X1 := Lib.hid (A0.out.below hB)
        have M1 := Lib.hid (HM.out.below hB)
        clear hB
        have HV := Lib.hid (implMvs_any _ ms w1 M1.out hn)
        rw [h2] at HV
        clear h2
        go_wp2_with fail
        refine HV.out.mono ?_
        rintro e w2 ⟨rfl, hB⟩
        have T2 := Lib.hid (T1.out.trans (hB.mono T1.out.size))
        have X2 := Lib.hid (X1.out.below hB)
        have M2 := Lib.hid (M1.out.below hB)
        clear hB
        have c0 := X2.out.1 0 (by omega)
        have c1 := X2.out.1 1 (by omega)
        have c2 := X2.out.1 2 (by omega)
        have c3 := X2.out.1 3 (by omega)
        have c4 := X2.out.1 4 (by omega)
        have HC := Lib.hid (follow_any f _ ms w2 M2.out H2.out HIN.out)
        unfold pval at HC
        rw [HMN.out] at HC
        go_wp2_with fail
        refine HC.out.mono ?_
        rintro e w3 ⟨u, rfl, own, hB⟩
        have T3 := Lib.hid (T2.out.trans (hB.mono T2.out.size))
        obtain ⟨ua, uc, rfl⟩ := own.rel.len
        have HBL := Lib.hid (behind_length f ms k)
        rw [behind_length] at own ⊢
        have OW := Lib.hid own
        clear hB own c0 c1 c2 c3 c4
        go_wp2_with fail
        go_returns
        exact ⟨_, rfl, (by simpa [OwnPl, cellsPl] using World.ownsRow_nil _ _ _ _), T3.out⟩
      | none =>
        rw [(at_none h1 h2 hw).1]
        have HMN := Lib.hid (madeN_none hw)
        have hkli : ¬ ((ms.length : Int) < (ms.length : Int)) := by omega
        have hkne : ((ms.length : Int) == (ms.length : Int)) = true := by simp
        clear hw
        clear h1
        go_enter Try.func32, Try.ntmps32
        go_wp2_with fail
        rw [← HW0.out]
        refine HOK.out.mono ?_
        rintro e w1 ⟨rfl, hB⟩
        have T1 := Lib.hid (B0.out.trans (hB.mono B0.out.size))
        have X1 := Lib.hid (A0.out.below hB)
        have M1 := Lib.hid (HM.out.below hB)
        clear hB
        have HV := Lib.hid (implMvs_any _ ms w1 M1.out hn)
        rw [h2] at HV
        clear h2
        go_wp2_with fail
        refine HV.out.mono ?_
        rintro e w2 ⟨rfl, hB⟩
        have T2 := Lib.hid (T1.out.trans (hB.mono T1.out.size))
        have X2 := Lib.hid (X1.out.below hB)
        have M2 := Lib.hid (M1.out.below hB)
        clear hB
        have c0 := X2.out.1 0 (by omega)
        have c1 := X2.out.1 1 (by omega)
        have c2 := X2.out.1 2 (by omega)
        have c3 := X2.out.1 3 (by omega)
        have c4 := X2.out.1 4 (by omega)
        have HC := Lib.hid (follow_any f _ ms w2 M2.out H2.out HIN.out)
        unfold pval at HC
        rw [HMN.out] at HC
        go_wp2_with fail
        refine HC.out.mono ?_
        rintro e w3 ⟨u, rfl, own, hB⟩
        have T3 := Lib.hid (T2.out.trans (hB.mono T2.out.size))
        obtain ⟨ua, uc, rfl⟩ := own.rel.len
        have HBL := Lib.hid (behind_length f ms ms.length)
        rw [behind_length] at own ⊢
        have OW := Lib.hid own
        clear hB own c0 c1 c2 c3 c4
        go_wp2_with fail
        go_returns
        exact ⟨_, rfl, own_down OW.out T2.out.size, T3.out⟩

set_option linter.unusedVariables false in
set_option maxRecDepth 100000 in
set_option maxHeartbeats 8000000 in
theorem implFirstWrong_any (f : Nat → Int) (v : Value) (ms : List Mv) (w : World) (h : Mvs w v ms) (hn : ms.length ≤ 1048576) (h5 : ∀ j, 5 ≤ j → f j = 0) (hr : ∀ j, j < 5 → -2147483648 ≤ f j ∧ f j ≤ 2147483647) :
    Calls Try.prog 37 #[pval f, v] w fun e w' => e = .returned (.tuple #[.int .i64 (firstF f ms).1, .int .i64 (firstF f ms).2]) ∧ Below w.heap.size w w' := by
  obtain ⟨va, vc, rfl⟩ := M0len h
  obtain ⟨W0, hW0⟩ : ∃ W0, W0 = (w.alloc (.cells #[.int .i32 (f 0), .int .i32 (f 1), .int .i32 (f 2), .int .i32 (f 3), .int .i32 (f 4)] 31)) := ⟨_, rfl⟩
  have A0 : Hid (Box5 W0 w.heap.size f) := Lib.hid (by rw [hW0]; exact Box5.made w _ f)
  have B0 : Hid (Below w.heap.size w W0) := Lib.hid (by rw [hW0]; go_grown)
  have HW0 := Lib.hid hW0
  have HM := Lib.hid (h.below B0.out)
  clear hW0
  have HOK := Lib.hid (areValid_any f W0)
  unfold pval at HOK
  have H5 := Lib.hid h5
  clear h hr h5
  cases h1 : okP f with
  | false =>
    rw [h1] at HOK
    rw [(at_no1 (ms := ms) h1).2.2]
    clear h1
    go_enter Try.func37, Try.ntmps37
    go_wp2_with fail
    rw [← HW0.out]
    refine HOK.out.mono ?_
    rintro e w1 ⟨rfl, hB⟩
    have T1 := Lib.hid (B0.out.trans (hB.mono B0.out.size))
    have X1 := Lib.hid (A0.out.below hB)
    have M1 := Lib.hid (HM.out.below hB)
    clear hB
    go_wp2_with fail
    go_returns
    exact ⟨rfl, T1.out⟩
  | true =>
    rw [h1] at HOK
    have HIN : Hid (Within f 1000000) := Lib.hid fun j => (by
      by_cases hj : j < 5
      · have := okP_in h1 j hj
        omega
      · rw [H5.out j (by omega)]
        omega)
    cases h2 : isMvs ms with
    | false =>
      rw [(at_no2 (f := f) h2).2.2]
      clear h1
      go_enter Try.func37, Try.ntmps37
      go_wp2_with fail
      rw [← HW0.out]
      refine HOK.out.mono ?_
      rintro e w1 ⟨rfl, hB⟩
      have T1 := Lib.hid (B0.out.trans (hB.mono B0.out.size))
      have X1 := Lib.hid (A0.out.below hB)
      have M1 := Lib.hid (HM.out.below hB)
      clear hB
      have HV := Lib.hid (implMvs_any _ ms w1 M1.out hn)
      rw [h2] at HV
      clear h2
      go_wp2_with fail
      refine HV.out.mono ?_
      rintro e w2 ⟨rfl, hB⟩
      have T2 := Lib.hid (T1.out.trans (hB.mono T1.out.size))
      have X2 := Lib.hid (X1.out.below hB)
      have M2 := Lib.hid (M1.out.below hB)
      clear hB
      go_wp2_with fail
      go_returns
      exact ⟨rfl, T2.out⟩
    | true =>
      have H2 := Lib.hid h2
      cases hw : wrongAt f ms with
      | some k =>
        rw [(at_some h1 h2 hw).2.2]
        have HMN := Lib.hid (madeN_some hw)
        have hkl : k < ms.length := wrongAt_lt hw
        have hkli : (k : Int) < (ms.length : Int) := by omega
        have hkne : ((k : Int) == (ms.length : Int)) = false := by simp; omega
        clear hw
        clear h1
        go_enter Try.func37, Try.ntmps37
        go_wp2_with fail
        rw [← HW0.out]
        refine HOK.out.mono ?_
        rintro e w1 ⟨rfl, hB⟩
        have T1 := Lib.hid (B0.out.trans (hB.mono B0.out.size))
        have X1 := Lib.hid (A0.out.below hB)
        have M1 := Lib.hid (HM.out.below hB)
        clear hB
        have HV := Lib.hid (implMvs_any _ ms w1 M1.out hn)
        rw [h2] at HV
        clear h2
        go_wp2_with fail
        refine HV.out.mono ?_
        rintro e w2 ⟨rfl, hB⟩
        have T2 := Lib.hid (T1.out.trans (hB.mono T1.out.size))
        have X2 := Lib.hid (X1.out.below hB)
        have M2 := Lib.hid (M1.out.below hB)
        clear hB
        have c0 := X2.out.1 0 (by omega)
        have c1 := X2.out.1 1 (by omega)
        have c2 := X2.out.1 2 (by omega)
        have c3 := X2.out.1 3 (by omega)
        have c4 := X2.out.1 4 (by omega)
        have HC := Lib.hid (follow_any f _ ms w2 M2.out H2.out HIN.out)
        unfold pval at HC
        rw [HMN.out] at HC
        go_wp2_with fail
        refine HC.out.mono ?_
        rintro e w3 ⟨u, rfl, own, hB⟩
        have T3 := Lib.hid (T2.out.trans (hB.mono T2.out.size))
        obtain ⟨ua, uc, rfl⟩ := own.rel.len
        have HBL := Lib.hid (behind_length f ms k)
        rw [behind_length] at own ⊢
        have OW := Lib.hid own
        clear hB own c0 c1 c2 c3 c4
        go_wp2_with fail
        go_returns
        exact ⟨rfl, T3.out⟩
      | none =>
        rw [(at_none h1 h2 hw).2.2]
        have HMN := Lib.hid (madeN_none hw)
        have hkli : ¬ ((ms.length : Int) < (ms.length : Int)) := by omega
        have hkne : ((ms.length : Int) == (ms.length : Int)) = true := by simp
        clear hw
        clear h1
        go_enter Try.func37, Try.ntmps37
        go_wp2_with fail
        rw [← HW0.out]
        refine HOK.out.mono ?_
        rintro e w1 ⟨rfl, hB⟩
        have T1 := Lib.hid (B0.out.trans (hB.mono B0.out.size))
        have X1 := Lib.hid (A0.out.below hB)
        have M1 := Lib.hid (HM.out.below hB)
        clear hB
        have HV := Lib.hid (implMvs_any _ ms w1 M1.out hn)
        rw [h2] at HV
        clear h2
        go_wp2_with fail
        refine HV.out.mono ?_
        rintro e w2 ⟨rfl, hB⟩
        have T2 := Lib.hid (T1.out.trans (hB.mono T1.out.size))
        have X2 := Lib.hid (X1.out.below hB)
        have M2 := Lib.hid (M1.out.below hB)
        clear hB
        have c0 := X2.out.1 0 (by omega)
        have c1 := X2.out.1 1 (by omega)
        have c2 := X2.out.1 2 (by omega)
        have c3 := X2.out.1 3 (by omega)
        have c4 := X2.out.1 4 (by omega)
        have HC := Lib.hid (follow_any f _ ms w2 M2.out H2.out HIN.out)
        unfold pval at HC
        rw [HMN.out] at HC
        go_wp2_with fail
        refine HC.out.mono ?_
        rintro e w3 ⟨u, rfl, own, hB⟩
        have T3 := Lib.hid (T2.out.trans (hB.mono T2.out.size))
        obtain ⟨ua, uc, rfl⟩ := own.rel.len
        have HBL := Lib.hid (behind_length f ms ms.length)
        rw [behind_length] at own ⊢
        have OW := Lib.hid own
        clear hB own c0 c1 c2 c3 c4
        go_wp2_with fail
        go_returns
        exact ⟨rfl, T3.out⟩

set_option linter.unusedVariables false in
set_option maxRecDepth 100000 in
set_option maxHeartbeats 8000000 in
theorem implMakeMoves_any (f : Nat → Int) (v : Value) (ms : List Mv) (w : World) (h : Mvs w v ms) (hn : ms.length ≤ 1048576) (h5 : ∀ j, 5 ≤ j → f j = 0) (hr : ∀ j, j < 5 → -2147483648 ≤ f j ∧ f j ≤ 2147483647) :
    Calls Try.prog 30 #[pval f, v] w fun e w' => e = .returned (.tuple #[pval (makeF f ms).1, .int .i64 (makeF f ms).2]) ∧ Below w.heap.size w w' := by
  obtain ⟨W0, hW0⟩ : ∃ W0, W0 = ((w.alloc (.cells #[.int .i32 (f 0), .int .i32 (f 1), .int .i32 (f 2), .int .i32 (f 3), .int .i32 (f 4)] 31)).alloc (.cells #[.int .i32 0, .int .i32 0, .int .i32 0, .int .i32 0, .int .i32 0] 31)) := ⟨_, rfl⟩
  have A0 : Hid (Box5 W0 w.heap.size f) := Lib.hid (by rw [hW0]; exact (Box5.made w _ f).below ((Below.refl _ _).alloc (Nat.le_refl _) _))
  have A1 : Hid (Box5 W0 (w.heap.size + 1) (fun _ => 0)) := Lib.hid (by
    rw [hW0]
    have := (Box5.made (w.alloc (.cells #[.int .i32 (f 0), .int .i32 (f 1), .int .i32 (f 2), .int .i32 (f 3), .int .i32 (f 4)] 31)) 31 (fun _ => 0))
    simpa only [World.size_alloc] using this)
  have B0 : Hid (Below w.heap.size w W0) := Lib.hid (by rw [hW0]; go_grown)
  have HW0 := Lib.hid hW0
  have HM := Lib.hid (h.below B0.out)
  clear hW0
  have HC := Lib.hid (implPlacesAt_any f v ms W0 HM.out hn h5 hr)
  unfold pval at HC
  clear h hr h5
  cases h1 : okP f with
  | false =>
    rw [(at_no1 (ms := ms) h1).1] at HC
    rw [(at_no1 (ms := ms) h1).2.1]
    clear h1
    go_enter Try.func30, Try.ntmps30
    go_wp2_with fail
    rw [← HW0.out]
    refine HC.out.mono ?_
    rintro e w3 ⟨u, rfl, own, hB⟩
    have T3 := Lib.hid (B0.out.trans (hB.mono B0.out.size))
    have X3 := A0.out.below hB
    have Y3 := A1.out.below hB
    have c0 := X3.1 0 (by omega)
    have c1 := X3.1 1 (by omega)
    have c2 := X3.1 2 (by omega)
    have c3 := X3.1 3 (by omega)
    have c4 := X3.1 4 (by omega)
    have r0 := Y3.1 0 (by omega)
    have r1 := Y3.1 1 (by omega)
    have r2 := Y3.1 2 (by omega)
    have r3 := Y3.1 3 (by omega)
    have r4 := Y3.1 4 (by omega)
    have f0 := Y3.2
    have G := Lib.hid (Y3.put5 (fun _ => 0))
    have GB := Lib.hid (below_set5 T3.out (Nat.le_succ _) (fun _ => 0))
    obtain ⟨ua, uc, rfl⟩ := own.rel.len
    clear own hB X3 Y3
    go_wp2_with fail
    obtain ⟨e0, e1⟩ := G.out
    have g0 := e0 0 (by omega)
    have g1 := e0 1 (by omega)
    have g2 := e0 2 (by omega)
    have g3 := e0 3 (by omega)
    have g4 := e0 4 (by omega)
    refine bodyPost_ret (v := .tuple #[.agg #[.int .i32 0, .int .i32 0, .int .i32 0, .int .i32 0, .int .i32 0], .int .i64 1]) (by simp [results, go_sem, g0, g1, g2, g3, g4, Try.f30]) rfl ?_
    exact ⟨rfl, GB.out⟩
  | true =>
    cases h2 : isMvs ms with
    | false =>
      rw [(at_no2 (f := f) h2).1] at HC
      rw [(at_no2 (f := f) h2).2.1]
      clear h1 h2
      go_enter Try.func30, Try.ntmps30
      go_wp2_with fail
      rw [← HW0.out]
      refine HC.out.mono ?_
      rintro e w3 ⟨u, rfl, own, hB⟩
      have T3 := Lib.hid (B0.out.trans (hB.mono B0.out.size))
      have X3 := A0.out.below hB
      have Y3 := A1.out.below hB
      have c0 := X3.1 0 (by omega)
      have c1 := X3.1 1 (by omega)
      have c2 := X3.1 2 (by omega)
      have c3 := X3.1 3 (by omega)
      have c4 := X3.1 4 (by omega)
      have r0 := Y3.1 0 (by omega)
      have r1 := Y3.1 1 (by omega)
      have r2 := Y3.1 2 (by omega)
      have r3 := Y3.1 3 (by omega)
      have r4 := Y3.1 4 (by omega)
      have f0 := Y3.2
      have G := Lib.hid (Y3.put5 (fun _ => 0))
      have GB := Lib.hid (below_set5 T3.out (Nat.le_succ _) (fun _ => 0))
      obtain ⟨ua, uc, rfl⟩ := own.rel.len
      clear own hB X3 Y3
      go_wp2_with fail
      obtain ⟨e0, e1⟩ := G.out
      have g0 := e0 0 (by omega)
      have g1 := e0 1 (by omega)
      have g2 := e0 2 (by omega)
      have g3 := e0 3 (by omega)
      have g4 := e0 4 (by omega)
      refine bodyPost_ret (v := .tuple #[.agg #[.int .i32 0, .int .i32 0, .int .i32 0, .int .i32 0, .int .i32 0], .int .i64 1]) (by simp [results, go_sem, g0, g1, g2, g3, g4, Try.f30]) rfl ?_
      exact ⟨rfl, GB.out⟩
    | true =>
      cases hw : wrongAt f ms with
      | some k =>
        rw [(at_some h1 h2 hw).1] at HC
        rw [(at_some h1 h2 hw).2.1]
        clear h1 h2 hw
        go_enter Try.func30, Try.ntmps30
        go_wp2_with fail
        rw [← HW0.out]
        refine HC.out.mono ?_
        rintro e w3 ⟨u, rfl, own, hB⟩
        have T3 := Lib.hid (B0.out.trans (hB.mono B0.out.size))
        have X3 := A0.out.below hB
        have Y3 := A1.out.below hB
        have c0 := X3.1 0 (by omega)
        have c1 := X3.1 1 (by omega)
        have c2 := X3.1 2 (by omega)
        have c3 := X3.1 3 (by omega)
        have c4 := X3.1 4 (by omega)
        have r0 := Y3.1 0 (by omega)
        have r1 := Y3.1 1 (by omega)
        have r2 := Y3.1 2 (by omega)
        have r3 := Y3.1 3 (by omega)
        have r4 := Y3.1 4 (by omega)
        have f0 := Y3.2
        have G := Lib.hid (Y3.put5 (fun _ => 0))
        have GB := Lib.hid (below_set5 T3.out (Nat.le_succ _) (fun _ => 0))
        obtain ⟨ua, uc, rfl⟩ := own.rel.len
        clear own hB X3 Y3
        go_wp2_with fail
        obtain ⟨e0, e1⟩ := G.out
        have g0 := e0 0 (by omega)
        have g1 := e0 1 (by omega)
        have g2 := e0 2 (by omega)
        have g3 := e0 3 (by omega)
        have g4 := e0 4 (by omega)
        refine bodyPost_ret (v := .tuple #[.agg #[.int .i32 0, .int .i32 0, .int .i32 0, .int .i32 0, .int .i32 0], .int .i64 4]) (by simp [results, go_sem, g0, g1, g2, g3, g4, Try.f30]) rfl ?_
        exact ⟨rfl, GB.out⟩
      | none =>
        rw [(at_none h1 h2 hw).1] at HC
        rw [(at_none h1 h2 hw).2.1]
        clear h1 h2 hw
        by_cases hl : ms.length = 0
        · have hx : ms = [] := List.length_eq_zero_iff.1 hl
          subst hx
          show Calls _ _ _ _ fun e w' => e = .returned (.tuple #[pval f, .int .i64 0]) ∧ Below w.heap.size w w'
          go_enter Try.func30, Try.ntmps30
          go_wp2_with fail
          rw [← HW0.out]
          refine HC.out.mono ?_
          rintro e w3 ⟨u, rfl, own, hB⟩
          have T3 := Lib.hid (B0.out.trans (hB.mono B0.out.size))
          have X3 := A0.out.below hB
          have Y3 := A1.out.below hB
          have c0 := X3.1 0 (by omega)
          have c1 := X3.1 1 (by omega)
          have c2 := X3.1 2 (by omega)
          have c3 := X3.1 3 (by omega)
          have c4 := X3.1 4 (by omega)
          have r0 := Y3.1 0 (by omega)
          have r1 := Y3.1 1 (by omega)
          have r2 := Y3.1 2 (by omega)
          have r3 := Y3.1 3 (by omega)
          have r4 := Y3.1 4 (by omega)
          have f0 := Y3.2
          have G := Lib.hid (Y3.put5 f)
          have GB := Lib.hid (below_set5 T3.out (Nat.le_succ _) f)
          obtain ⟨ua, uc, hu⟩ := own.rel.len
          rw [show (behind f [] ([] : List Mv).length, (0 : Int)).1.length = 0 from rfl] at hu
          subst hu
          clear own hB X3 Y3
          go_wp2_with fail
          obtain ⟨e0, e1⟩ := G.out
          have g0 := e0 0 (by omega)
          have g1 := e0 1 (by omega)
          have g2 := e0 2 (by omega)
          have g3 := e0 3 (by omega)
          have g4 := e0 4 (by omega)
          refine bodyPost_ret (v := .tuple #[.agg #[.int .i32 (f 0), .int .i32 (f 1), .int .i32 (f 2), .int .i32 (f 3), .int .i32 (f 4)], .int .i64 0]) (by simp [results, go_sem, g0, g1, g2, g3, g4, Try.f30]) rfl ?_
          exact ⟨rfl, GB.out⟩
        · have HLN := Lib.hid (behind_length f ms ms.length)
          have HGT := Lib.hid (behind_get f ms ms.length (ms.length - 1) (by omega))
          rw [show ms.length - 1 + 1 = ms.length by omega] at HGT
          generalize hF : bringTo f ms ms.length = F at *
          have HF := Lib.hid hF
          clear hF
          go_enter Try.func30, Try.ntmps30
          go_wp2_with fail
          rw [← HW0.out]
          refine HC.out.mono ?_
          rintro e w3 ⟨u, rfl, own, hB⟩
          have T3 := Lib.hid (B0.out.trans (hB.mono B0.out.size))
          have X3 := A0.out.below hB
          have Y3 := A1.out.below hB
          have c0 := X3.1 0 (by omega)
          have c1 := X3.1 1 (by omega)
          have c2 := X3.1 2 (by omega)
          have c3 := X3.1 3 (by omega)
          have c4 := X3.1 4 (by omega)
          have r0 := Y3.1 0 (by omega)
          have r1 := Y3.1 1 (by omega)
          have r2 := Y3.1 2 (by omega)
          have r3 := Y3.1 3 (by omega)
          have r4 := Y3.1 4 (by omega)
          have f0 := Y3.2
          have G := Lib.hid (Y3.put5 F)
          have GB := Lib.hid (below_set5 T3.out (Nat.le_succ _) F)
          obtain ⟨b, off, uc, hu, hbl, hcl⟩ := own.rel.pos (by show 0 < (behind f ms ms.length).length; rw [HLN.out]; omega)
          have hcl := hcl (ms.length - 1) (by show _ < (behind f ms ms.length).length; rw [HLN.out]; omega)
          rw [show atPl (behind f ms ms.length, (0 : Int)).1 (ms.length - 1) = F from HGT.out] at hcl
          rw [show (behind f ms ms.length, (0 : Int)).1.length = ms.length from HLN.out] at hu
          subst hu
          obtain ⟨k, hk⟩ : ∃ k, ms.length = k + 1 := ⟨ms.length - 1, by omega⟩
          rw [hk] at hcl ⊢
          rw [show k + 1 - 1 = k by omega] at hcl
          obtain ⟨l0, l1, l2, l3, l4⟩ := hcl
          have hz : ((k : Int) + 1 == 0) = false := by simp; omega
          have hk60 : (k : Int) + 1 ≤ 1048576 := by omega
          clear own hB X3 Y3 hn hl hk
          go_wp2_with fail
          obtain ⟨e0, e1⟩ := G.out
          have g0 := e0 0 (by omega)
          have g1 := e0 1 (by omega)
          have g2 := e0 2 (by omega)
          have g3 := e0 3 (by omega)
          have g4 := e0 4 (by omega)
          refine bodyPost_ret (v := .tuple #[.agg #[.int .i32 (F 0), .int .i32 (F 1), .int .i32 (F 2), .int .i32 (F 3), .int .i32 (F 4)], .int .i64 0]) (by simp [results, go_sem, g0, g1, g2, g3, g4, Try.f30]) rfl ?_
          exact ⟨rfl, GB.out⟩
end Go.Proofs.Ytphinokacggnfaa
