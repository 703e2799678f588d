/-
  No statement is proved here: the median length of a heap in the program, whole; condition: numbers that are int32s.
-/
import Derived.Test.YtekejhnhkifcfaaMdI
namespace Go.Proofs.Ytekejhnhkifcfaa
open Go.RowKit

set_option maxRecDepth 100000 in
set_option maxHeartbeats 2000000 in
theorem implMedC_no (hb : Nat) (w : World) (hH : HeapAt w hb 0 (z8 0 0 0 0 0 0 0 0)) :
    Calls Try.prog 50 #[.pointer (some ⟨hb, 0, none⟩)] w fun e w' => e = .panicked [{ v := .iface 86 (.agg #[]), recovered := false }] ∧ Below w.heap.size w w' := by
  have c0 := hH 0 (by omega)
  have c1 := hH 1 (by omega)
  have c2 := hH 2 (by omega)
  have c3 := hH 3 (by omega)
  have c4 := hH 4 (by omega)
  have c5 := hH 5 (by omega)
  have c6 := hH 6 (by omega)
  have c7 := hH 7 (by omega)
  simp only [Nat.zero_add, z8] at c0 c1 c2 c3 c4 c5 c6 c7
  have HWO := Lib.hid (woolOf_no w)
  clear hH
  go_enter Try.func50, Try.ntmps50
  go_wp2_with fail
  refine HWO.out.mono ?_
  rintro e w1 ⟨rfl, hB⟩
  exact ⟨rfl, rfl, hB⟩

set_option maxRecDepth 100000 in
set_option maxHeartbeats 4000000 in
theorem implMed_any (x0 x1 x2 x3 x4 x5 x6 x7 : Int) (w : World) :
    Calls Try.prog 25 #[.agg #[.int .i32 x0, .int .i32 x1, .int .i32 x2, .int .i32 x3, .int .i32 x4, .int .i32 x5, .int .i32 x6, .int .i32 x7]] w fun e w' => e = .returned (.tuple #[.int .i64 (medF (z8 x0 x1 x2 x3 x4 x5 x6 x7)).1, .int .i64 (medF (z8 x0 x1 x2 x3 x4 x5 x6 x7)).2]) ∧ Below w.heap.size w w' := by
  have hmf : ∀ (fn : Fn) (first cap : Array Value) (w : World), (Instr.makeFunc fn first cap).run Try.prog w = .ok (.func fn first cap) w := fun _ _ _ _ => rfl
  obtain ⟨W0, hW0⟩ : ∃ W0, W0 = w.alloc (.cells #[.int .i32 x0, .int .i32 x1, .int .i32 x2, .int .i32 x3, .int .i32 x4, .int .i32 x5, .int .i32 x6, .int .i32 x7] 23) := ⟨_, rfl⟩
  have hH : HeapAt W0 w.heap.size 0 (z8 x0 x1 x2 x3 x4 x5 x6 x7) := hW0 ▸ heapAt_alloc w x0 x1 x2 x3 x4 x5 x6 x7 23
  have T0 := Lib.hid (show Below w.heap.size w W0 by rw [hW0]; go_grown)
  have HZ0 := Lib.hid (show w.heap.size < W0.heap.size by rw [hW0]; simp)
  have hv := fun wx => validHeap_any x0 x1 x2 x3 x4 x5 x6 x7 wx
  have hH2 : ∀ wx, Below W0.heap.size W0 wx → HeapAt wx w.heap.size 0 (z8 x0 x1 x2 x3 x4 x5 x6 x7) := fun wx hB => hH.below hB HZ0.out
  have HW0 := Lib.hid hW0
  have hm : medF (z8 x0 x1 x2 x3 x4 x5 x6 x7) = if someF (z8 x0 x1 x2 x3 x4 x5 x6 x7) = 0 then (medTo (z8 x0 x1 x2 x3 x4 x5 x6 x7) (sumTo (z8 x0 x1 x2 x3 x4 x5 x6 x7) 8) 8, 0) else (0, someF (z8 x0 x1 x2 x3 x4 x5 x6 x7)) := rfl
  have hs : someF (z8 x0 x1 x2 x3 x4 x5 x6 x7) = if okH (z8 x0 x1 x2 x3 x4 x5 x6 x7) = true then (if sumTo (z8 x0 x1 x2 x3 x4 x5 x6 x7) 8 = 0 then 6 else 0) else 1 := rfl
  have c0 := hH 0 (by omega)
  have c1 := hH 1 (by omega)
  have c2 := hH 2 (by omega)
  have c3 := hH 3 (by omega)
  have c4 := hH 4 (by omega)
  have c5 := hH 5 (by omega)
  have c6 := hH 6 (by omega)
  have c7 := hH 7 (by omega)
  simp only [Nat.zero_add, z8] at c0 c1 c2 c3 c4 c5 c6 c7
  clear hW0
  cases hok : okH (z8 x0 x1 x2 x3 x4 x5 x6 x7) with
  | false =>
    rw [hok, if_neg (by decide)] at hs
    rw [hs, if_neg (by decide)] at hm
    rw [hok] at hv
    have HV := Lib.hid hv
    rw [hm]
    clear hs hm hok hH hH2 hv
    go_enter Try.func25, Try.ntmps25
    go_wp2_with fail
    rw [← HW0.out]
    refine (HV.out _).mono ?_
    rintro e w1 ⟨rfl, hB⟩
    have T1 := Lib.hid (T0.out.trans (hB.mono T0.out.size))
    clear hB c0 c1 c2 c3 c4 c5 c6 c7
    go_wp2_with fail
    go_ret2
    exact ⟨rfl, T1.out⟩
  | true =>
    rw [hok, if_pos rfl] at hs
    rw [hok] at hv
    have HV := Lib.hid hv
    by_cases hn : sumTo (z8 x0 x1 x2 x3 x4 x5 x6 x7) 8 = 0
    · rw [if_pos hn] at hs
      rw [hs, if_neg (by decide)] at hm
      rw [hm]
      obtain ⟨h0, h1, h2, h3, h4, h5, h6, h7⟩ := (sum0_iff hok).2 hn
      subst h0 h1 h2 h3 h4 h5 h6 h7
      have HH2 := Lib.hid hH2
      clear hs hm hok hH hH2 hv hn
      go_enter Try.func25, Try.ntmps25
      go_wp2_with fail
      rw [← HW0.out]
      refine (HV.out _).mono ?_
      rintro e w1 ⟨rfl, hB⟩
      have T1 := Lib.hid (T0.out.trans (hB.mono T0.out.size))
      have HWL := Lib.hid (woolMedianLength_no ⟨w.heap.size, 0, none⟩ w1 fun wx hx => implMedC_no w.heap.size wx (HH2.out wx (hB.trans (hx.mono hB.size))))
      clear hB c0 c1 c2 c3 c4 c5 c6 c7
      go_wp2_with fail
      refine HWL.out.mono ?_
      rintro e w2 ⟨rfl, hB2⟩
      have T2 := Lib.hid (T1.out.trans (hB2.mono T1.out.size))
      clear hB2
      go_wp2_with fail
      go_ret2
      exact ⟨rfl, T2.out⟩
    · rw [if_neg hn] at hs
      rw [hs, if_pos rfl] at hm
      rw [hm]
      have HC := Lib.hid fun (hb : Nat) wx (hx : HeapAt wx hb 0 (z8 x0 x1 x2 x3 x4 x5 x6 x7)) => implMedC_yes x0 x1 x2 x3 x4 x5 x6 x7 hok hn hb wx hx
      have HH2 := Lib.hid hH2
      generalize medTo (z8 x0 x1 x2 x3 x4 x5 x6 x7) (sumTo (z8 x0 x1 x2 x3 x4 x5 x6 x7) 8) 8 = rn at *
      clear hs hm hok hH hH2 hv hn
      go_enter Try.func25, Try.ntmps25
      go_wp2_with fail
      rw [← HW0.out]
      refine (HV.out _).mono ?_
      rintro e w1 ⟨rfl, hB⟩
      have T1 := Lib.hid (T0.out.trans (hB.mono T0.out.size))
      have HWL := Lib.hid (woolMedianLength_yes ⟨w.heap.size, 0, none⟩ rn w1 fun wx hx => HC.out w.heap.size wx (HH2.out wx (hB.trans (hx.mono hB.size))))
      clear hB c0 c1 c2 c3 c4 c5 c6 c7
      go_wp2_with fail
      refine HWL.out.mono ?_
      rintro e w2 ⟨rfl, hB2⟩
      have T2 := Lib.hid (T1.out.trans (hB2.mono T1.out.size))
      clear hB2
      go_wp2_with fail
      go_ret2
      exact ⟨rfl, T2.out⟩
end Go.Proofs.Ytekejhnhkifcfaa
