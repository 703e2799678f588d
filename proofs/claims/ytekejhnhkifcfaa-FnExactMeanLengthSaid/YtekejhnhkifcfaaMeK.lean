/-
  No statement is proved here: the mean length of a heap in the program, whole; condition: numbers that are int32s.
-/
import Derived.Test.YtekejhnhkifcfaaMeI
namespace Go.Proofs.Ytekejhnhkifcfaa
open Go.RowKit

set_option maxRecDepth 100000 in
set_option maxHeartbeats 4000000 in
theorem implMean_any (x0 x1 x2 x3 x4 x5 x6 x7 : Int) (w : World) :
    Calls Try.prog 22 #[.agg #[.int .i32 x0, .int .i32 x1, .int .i32 x2, .int .i32 x3, .int .i32 x4, .int .i32 x5, .int .i32 x6, .int .i32 x7]] w fun e w' => e = .returned (.tuple #[.agg #[.int .i64 (meanF (z8 x0 x1 x2 x3 x4 x5 x6 x7)).1, .int .i64 (meanF (z8 x0 x1 x2 x3 x4 x5 x6 x7)).2.1], .int .i64 (meanF (z8 x0 x1 x2 x3 x4 x5 x6 x7)).2.2]) ∧ Below w.heap.size w w' := by
  have hmf : ∀ (fn : Fn) (first cap : Array Value) (w : World), (Instr.makeFunc fn first cap).run Try.prog w = .ok (.func fn first cap) w := fun _ _ _ _ => rfl
  obtain ⟨W0, hW0⟩ : ∃ W0, W0 = (w.alloc (.cells #[.int .i32 x0, .int .i32 x1, .int .i32 x2, .int .i32 x3, .int .i32 x4, .int .i32 x5, .int .i32 x6, .int .i32 x7] 23)).alloc (.cells #[.int .i64 0, .int .i64 0] 38) := ⟨_, rfl⟩
  have hH : HeapAt W0 w.heap.size 0 (z8 x0 x1 x2 x3 x4 x5 x6 x7) := hW0 ▸ (heapAt_alloc w x0 x1 x2 x3 x4 x5 x6 x7 23).below ((Below.refl _ _).alloc (Nat.le_refl _) _) (by simp)
  have T0 := Lib.hid (show Below w.heap.size w W0 by rw [hW0]; go_grown)
  have r0 : W0.cell? ⟨w.heap.size + 1, 0, none⟩ = some (.int .i64 0) := by rw [hW0]; simp [go_sem]
  have r1 : W0.cell? ⟨w.heap.size + 1, 1, none⟩ = some (.int .i64 0) := by rw [hW0]; simp [go_sem]
  have f0 : W0.frozen? ⟨w.heap.size + 1, 0, none⟩ = false := by rw [hW0]; simp [go_sem]
  have f1 : W0.frozen? ⟨w.heap.size + 1, 1, none⟩ = false := by rw [hW0]; simp [go_sem]
  have HZ0 := Lib.hid (show w.heap.size + 1 < W0.heap.size by rw [hW0]; simp)
  have hv := fun wx => validHeap_any x0 x1 x2 x3 x4 x5 x6 x7 wx
  have hH2 : ∀ wx, Below W0.heap.size W0 wx → HeapAt wx w.heap.size 0 (z8 x0 x1 x2 x3 x4 x5 x6 x7) := fun wx hB => hH.below hB (Nat.lt_trans (Nat.lt_succ_self _) HZ0.out)
  have HW0 := Lib.hid hW0
  have HR0 := Lib.hid r0
  have HR1 := Lib.hid r1
  have HF0 := Lib.hid f0
  have HF1 := Lib.hid f1
  have hm : meanF (z8 x0 x1 x2 x3 x4 x5 x6 x7) = if someF (z8 x0 x1 x2 x3 x4 x5 x6 x7) = 0 then (lowN (wsum (z8 x0 x1 x2 x3 x4 x5 x6 x7) 8) (sumTo (z8 x0 x1 x2 x3 x4 x5 x6 x7) 8), lowD (wsum (z8 x0 x1 x2 x3 x4 x5 x6 x7) 8) (sumTo (z8 x0 x1 x2 x3 x4 x5 x6 x7) 8), 0) else (0, 0, someF (z8 x0 x1 x2 x3 x4 x5 x6 x7)) := rfl
  have hs : someF (z8 x0 x1 x2 x3 x4 x5 x6 x7) = if okH (z8 x0 x1 x2 x3 x4 x5 x6 x7) = true then (if sumTo (z8 x0 x1 x2 x3 x4 x5 x6 x7) 8 = 0 then 6 else 0) else 1 := rfl
  have c0 := hH 0 (by omega)
  have c1 := hH 1 (by omega)
  have c2 := hH 2 (by omega)
  have c3 := hH 3 (by omega)
  have c4 := hH 4 (by omega)
  have c5 := hH 5 (by omega)
  have c6 := hH 6 (by omega)
  have c7 := hH 7 (by omega)
  simp only [Nat.zero_add, z8] at c0 c1 c2 c3 c4 c5 c6 c7
  clear hW0
  cases hok : okH (z8 x0 x1 x2 x3 x4 x5 x6 x7) with
  | false =>
    rw [hok, if_neg (by decide)] at hs
    rw [hs, if_neg (by decide)] at hm
    rw [hok] at hv
    have HV := Lib.hid hv
    rw [hm]
    clear hs hm hok hH hH2 hv
    go_enter Try.func22, Try.ntmps22
    go_wp2_with fail
    rw [← HW0.out]
    refine (HV.out _).mono ?_
    rintro e w1 ⟨rfl, hB⟩
    have r0 := kept hB HZ0.out HR0.out
    have r1 := kept hB HZ0.out HR1.out
    have f0 := (hB.frozen (p := ⟨w.heap.size + 1, 0, none⟩) HZ0.out).trans HF0.out
    have f1 := (hB.frozen (p := ⟨w.heap.size + 1, 1, none⟩) HZ0.out).trans HF1.out
    have T1 := Lib.hid (T0.out.trans (hB.mono T0.out.size))
    clear hB c0 c1 c2 c3 c4 c5 c6 c7
    obtain ⟨e0, e1⟩ := resF (.int .i64 0) (.int .i64 0) r0 r1
    go_wp2_with fail
    refine bodyPost_ret (by simp [results, Try.results22, go_sem, e0, e1]; try rfl) rfl ?_
    exact ⟨rfl, (T1.out.setCell (p := ⟨w.heap.size + 1, 0, none⟩) (Nat.le_succ _) _).setCell (p := ⟨w.heap.size + 1, 1, none⟩) (Nat.le_succ _) _⟩
  | true =>
    rw [hok, if_pos rfl] at hs
    rw [hok] at hv
    have HV := Lib.hid hv
    by_cases hn : sumTo (z8 x0 x1 x2 x3 x4 x5 x6 x7) 8 = 0
    · rw [if_pos hn] at hs
      rw [hs, if_neg (by decide)] at hm
      rw [hm]
      obtain ⟨h0, h1, h2, h3, h4, h5, h6, h7⟩ := (sum0_iff hok).2 hn
      subst h0 h1 h2 h3 h4 h5 h6 h7
      have HH2 := Lib.hid hH2
      clear hs hm hok hH hH2 hv hn
      go_enter Try.func22, Try.ntmps22
      go_wp2_with fail
      rw [← HW0.out]
      refine (HV.out _).mono ?_
      rintro e w1 ⟨rfl, hB⟩
      have r0 := kept hB HZ0.out HR0.out
      have r1 := kept hB HZ0.out HR1.out
      have f0 := (hB.frozen (p := ⟨w.heap.size + 1, 0, none⟩) HZ0.out).trans HF0.out
      have f1 := (hB.frozen (p := ⟨w.heap.size + 1, 1, none⟩) HZ0.out).trans HF1.out
      have T1 := Lib.hid (T0.out.trans (hB.mono T0.out.size))
      have Z1 := Lib.hid (Nat.lt_of_lt_of_le HZ0.out hB.size)
      have R0 := Lib.hid r0
      have R1 := Lib.hid r1
      have F0 := Lib.hid f0
      have F1 := Lib.hid f1
      have HWL := Lib.hid (woolMeanLength_no ⟨w.heap.size, 0, none⟩ w1 fun wx hx => implMeanC_no w.heap.size wx (HH2.out wx (hB.trans (hx.mono hB.size))))
      clear hB c0 c1 c2 c3 c4 c5 c6 c7
      go_wp2_with fail
      refine HWL.out.mono ?_
      rintro e w2 ⟨rfl, hB2⟩
      have r0 := kept hB2 Z1.out R0.out
      have r1 := kept hB2 Z1.out R1.out
      have f0 := (hB2.frozen (p := ⟨w.heap.size + 1, 0, none⟩) Z1.out).trans F0.out
      have f1 := (hB2.frozen (p := ⟨w.heap.size + 1, 1, none⟩) Z1.out).trans F1.out
      have T2 := Lib.hid (T1.out.trans (hB2.mono T1.out.size))
      clear hB2
      obtain ⟨e0, e1⟩ := resF (.int .i64 0) (.int .i64 0) r0 r1
      go_wp2_with fail
      refine bodyPost_ret (by simp [results, Try.results22, go_sem, e0, e1]; try rfl) rfl ?_
      exact ⟨rfl, (T2.out.setCell (p := ⟨w.heap.size + 1, 0, none⟩) (Nat.le_succ _) _).setCell (p := ⟨w.heap.size + 1, 1, none⟩) (Nat.le_succ _) _⟩
    · rw [if_neg hn] at hs
      rw [hs, if_pos rfl] at hm
      rw [hm]
      have HC := Lib.hid fun (hb : Nat) wx (hx : HeapAt wx hb 0 (z8 x0 x1 x2 x3 x4 x5 x6 x7)) => implMeanC_yes x0 x1 x2 x3 x4 x5 x6 x7 hok hn hb wx hx
      have HH2 := Lib.hid hH2
      generalize lowN (wsum (z8 x0 x1 x2 x3 x4 x5 x6 x7) 8) (sumTo (z8 x0 x1 x2 x3 x4 x5 x6 x7) 8) = rn at *
      generalize lowD (wsum (z8 x0 x1 x2 x3 x4 x5 x6 x7) 8) (sumTo (z8 x0 x1 x2 x3 x4 x5 x6 x7) 8) = rd at *
      clear hs hm hok hH hH2 hv hn
      go_enter Try.func22, Try.ntmps22
      go_wp2_with fail
      rw [← HW0.out]
      refine (HV.out _).mono ?_
      rintro e w1 ⟨rfl, hB⟩
      have r0 := kept hB HZ0.out HR0.out
      have r1 := kept hB HZ0.out HR1.out
      have f0 := (hB.frozen (p := ⟨w.heap.size + 1, 0, none⟩) HZ0.out).trans HF0.out
      have f1 := (hB.frozen (p := ⟨w.heap.size + 1, 1, none⟩) HZ0.out).trans HF1.out
      have T1 := Lib.hid (T0.out.trans (hB.mono T0.out.size))
      have Z1 := Lib.hid (Nat.lt_of_lt_of_le HZ0.out hB.size)
      have R0 := Lib.hid r0
      have R1 := Lib.hid r1
      have F0 := Lib.hid f0
      have F1 := Lib.hid f1
      have HWL := Lib.hid (woolMeanLength_yes ⟨w.heap.size, 0, none⟩ rn rd w1 fun wx hx => HC.out w.heap.size wx (HH2.out wx (hB.trans (hx.mono hB.size))))
      clear hB c0 c1 c2 c3 c4 c5 c6 c7
      go_wp2_with fail
      refine HWL.out.mono ?_
      rintro e w2 ⟨rfl, hB2⟩
      have r0 := kept hB2 Z1.out R0.out
      have r1 := kept hB2 Z1.out R1.out
      have f0 := (hB2.frozen (p := ⟨w.heap.size + 1, 0, none⟩) Z1.out).trans F0.out
      have f1 := (hB2.frozen (p := ⟨w.heap.size + 1, 1, none⟩) Z1.out).trans F1.out
      have T2 := Lib.hid (T1.out.trans (hB2.mono T1.out.size))
      clear hB2
      obtain ⟨e0, e1⟩ := resF (.int .i64 rn) (.int .i64 rd) r0 r1
      go_wp2_with fail
      refine bodyPost_ret (by simp [results, Try.results22, go_sem, e0, e1]; try rfl) rfl ?_
      exact ⟨rfl, (T2.out.setCell (p := ⟨w.heap.size + 1, 0, none⟩) (Nat.le_succ _) _).setCell (p := ⟨w.heap.size + 1, 1, none⟩) (Nat.le_succ _) _⟩
end Go.Proofs.Ytekejhnhkifcfaa
