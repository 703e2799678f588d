/-
  No statement is proved here: SharesOf in the program, whole; no condition.
-/
import Derived.Test.YtekejhnhkifcfaaSoI
namespace Go.Proofs.Ytekejhnhkifcfaa
open Go.ChangeShapes Go.WideShapes Go.ChangeAt Go.RowKit

set_option maxRecDepth 100000 in
set_option maxHeartbeats 4000000 in
theorem implShares_any (x0 x1 x2 x3 x4 x5 x6 x7 : Int) (w : World) :
    Calls Try.prog 27 #[.agg #[.int .i32 x0, .int .i32 x1, .int .i32 x2, .int .i32 x3, .int .i32 x4, .int .i32 x5, .int .i32 x6, .int .i32 x7]] w fun e w' => ∃ u, e = .returned (.tuple #[u, .int .i64 (sharesF (z8 x0 x1 x2 x3 x4 x5 x6 x7)).2]) ∧ OwnFc w' w.heap.size u (sharesF (z8 x0 x1 x2 x3 x4 x5 x6 x7)).1 ∧ Below w.heap.size w w' := by
  have hmf : ∀ (fn : Fn) (first cap : Array Value) (w : World), (Instr.makeFunc fn first cap).run Try.prog w = .ok (.func fn first cap) w := fun _ _ _ _ => rfl
  obtain ⟨W0, hW0⟩ : ∃ W0, W0 = w.alloc (.cells #[.int .i32 x0, .int .i32 x1, .int .i32 x2, .int .i32 x3, .int .i32 x4, .int .i32 x5, .int .i32 x6, .int .i32 x7] 23) := ⟨_, rfl⟩
  have hH : HeapAt W0 w.heap.size 0 (z8 x0 x1 x2 x3 x4 x5 x6 x7) := hW0 ▸ heapAt_alloc w x0 x1 x2 x3 x4 x5 x6 x7 23
  have T0 := Lib.hid (show Below w.heap.size w W0 by rw [hW0]; go_grown)
  have HZ0 := Lib.hid (show w.heap.size < W0.heap.size by rw [hW0]; simp)
  have hv := fun wx => validHeap_any x0 x1 x2 x3 x4 x5 x6 x7 wx
  have hH2 : ∀ wx, Below W0.heap.size W0 wx → HeapAt wx w.heap.size 0 (z8 x0 x1 x2 x3 x4 x5 x6 x7) := fun wx hB => hH.below hB HZ0.out
  have HW0 := Lib.hid hW0
  have hm : sharesF (z8 x0 x1 x2 x3 x4 x5 x6 x7) = if someF (z8 x0 x1 x2 x3 x4 x5 x6 x7) = 0 then (lowL (z8 x0 x1 x2 x3 x4 x5 x6 x7) (sumTo (z8 x0 x1 x2 x3 x4 x5 x6 x7) 8), 0) else ([], someF (z8 x0 x1 x2 x3 x4 x5 x6 x7)) := rfl
  have hs : someF (z8 x0 x1 x2 x3 x4 x5 x6 x7) = if okH (z8 x0 x1 x2 x3 x4 x5 x6 x7) = true then (if sumTo (z8 x0 x1 x2 x3 x4 x5 x6 x7) 8 = 0 then 6 else 0) else 1 := rfl
  have c0 : W0.cell? ⟨w.heap.size, 0, none⟩ = some (.int .i32 x0) := by have := hH 0 (by omega); rwa [Nat.zero_add] at this
  have c1 : W0.cell? ⟨w.heap.size, 1, none⟩ = some (.int .i32 x1) := by have := hH 1 (by omega); rwa [Nat.zero_add] at this
  have c2 : W0.cell? ⟨w.heap.size, 2, none⟩ = some (.int .i32 x2) := by have := hH 2 (by omega); rwa [Nat.zero_add] at this
  have c3 : W0.cell? ⟨w.heap.size, 3, none⟩ = some (.int .i32 x3) := by have := hH 3 (by omega); rwa [Nat.zero_add] at this
  have c4 : W0.cell? ⟨w.heap.size, 4, none⟩ = some (.int .i32 x4) := by have := hH 4 (by omega); rwa [Nat.zero_add] at this
  have c5 : W0.cell? ⟨w.heap.size, 5, none⟩ = some (.int .i32 x5) := by have := hH 5 (by omega); rwa [Nat.zero_add] at this
  have c6 : W0.cell? ⟨w.heap.size, 6, none⟩ = some (.int .i32 x6) := by have := hH 6 (by omega); rwa [Nat.zero_add] at this
  have c7 : W0.cell? ⟨w.heap.size, 7, none⟩ = some (.int .i32 x7) := by have := hH 7 (by omega); rwa [Nat.zero_add] at this
  clear hW0
  cases hok : okH (z8 x0 x1 x2 x3 x4 x5 x6 x7) with
  | false =>
    rw [hok, if_neg (by decide)] at hs
    rw [hs, if_neg (by decide)] at hm
    rw [hok] at hv
    have HV := Lib.hid hv
    rw [hm]
    clear hs hm hok hH hH2 hv
    go_enter Try.func27, Try.ntmps27
    go_wp2_with fail
    rw [← HW0.out]
    refine (HV.out _).mono ?_
    rintro e w1 ⟨rfl, hB⟩
    have T1 := Lib.hid (T0.out.trans (hB.mono T0.out.size))
    clear hB c0 c1 c2 c3 c4 c5 c6 c7
    go_wp2_with fail
    go_ret2
    exact ⟨_, rfl, ⟨isFc _, World.ownsRow_nil _ _ _ _⟩, T1.out⟩
  | true =>
    rw [hok, if_pos rfl] at hs
    rw [hok] at hv
    have HV := Lib.hid hv
    by_cases hn : sumTo (z8 x0 x1 x2 x3 x4 x5 x6 x7) 8 = 0
    · rw [if_pos hn] at hs
      rw [hs, if_neg (by decide)] at hm
      rw [hm]
      obtain ⟨h0, h1, h2, h3, h4, h5, h6, h7⟩ := (sum0_iff hok).2 hn
      subst h0 h1 h2 h3 h4 h5 h6 h7
      have HH2 := Lib.hid hH2
      clear hs hm hok hH hH2 hv hn
      go_enter Try.func27, Try.ntmps27
      go_wp2_with fail
      rw [← HW0.out]
      refine (HV.out _).mono ?_
      rintro e w1 ⟨rfl, hB⟩
      have T1 := Lib.hid (T0.out.trans (hB.mono T0.out.size))
      have HWL := Lib.hid (woolSharesOf_no ⟨w.heap.size, 0, none⟩ w1 fun wx hx => implShC_no w.heap.size wx (HH2.out wx (hB.trans (hx.mono hB.size))))
      clear hB c0 c1 c2 c3 c4 c5 c6 c7
      go_wp2_with fail
      refine HWL.out.mono ?_
      rintro e w2 ⟨rfl, hB2⟩
      have T2 := Lib.hid (T1.out.trans (hB2.mono T1.out.size))
      clear hB2
      go_wp2_with fail
      go_ret2
      exact ⟨_, rfl, ⟨isFc _, World.ownsRow_nil _ _ _ _⟩, T2.out⟩
    · rw [if_neg hn] at hs
      rw [hs, if_pos rfl] at hm
      rw [hm]
      have HC := Lib.hid fun (hb : Nat) wx (hx : HeapAt wx hb 0 (z8 x0 x1 x2 x3 x4 x5 x6 x7)) => implShC_yes x0 x1 x2 x3 x4 x5 x6 x7 hok hn hb wx hx
      have HH2 := Lib.hid hH2
      generalize lowL (z8 x0 x1 x2 x3 x4 x5 x6 x7) (sumTo (z8 x0 x1 x2 x3 x4 x5 x6 x7) 8) = rn at *
      clear hs hm hok hH hH2 hv hn
      go_enter Try.func27, Try.ntmps27
      go_wp2_with fail
      rw [← HW0.out]
      refine (HV.out _).mono ?_
      rintro e w1 ⟨rfl, hB⟩
      have T1 := Lib.hid (T0.out.trans (hB.mono T0.out.size))
      have HWL := Lib.hid (woolSharesOf_yes ⟨w.heap.size, 0, none⟩ rn w1 fun wx hx => HC.out w.heap.size wx (HH2.out wx (hB.trans (hx.mono hB.size))))
      have HLE := Lib.hid T1.out.size
      clear hB c0 c1 c2 c3 c4 c5 c6 c7
      go_wp2_with fail
      refine HWL.out.mono ?_
      rintro e w2 ⟨u, rfl, hO, hB2⟩
      have T2 := Lib.hid (T1.out.trans (hB2.mono T1.out.size))
      have HU := Lib.hid hO
      clear hB2 hO
      go_wp2_with fail
      go_ret2
      exact ⟨_, rfl, ⟨HU.out.1, World.ownsRow.mono HU.out.2 HLE.out⟩, T2.out⟩
end Go.Proofs.Ytekejhnhkifcfaa
