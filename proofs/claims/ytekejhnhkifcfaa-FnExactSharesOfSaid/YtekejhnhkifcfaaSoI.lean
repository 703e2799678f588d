/-
  No statement is proved here: the shares of a heap in the program; condition: numbers that are int32s.
-/
import Derived.Test.YtekejhnhkifcfaaCs
import Derived.Test.YtekejhnhkifcfaaSoO
import Derived.Test.YtekejhnhkifcfaaWoL
import Derived.Test.YtekejhnhkifcfaaMeS
namespace Go.Proofs.Ytekejhnhkifcfaa
open Go.ChangeShapes Go.WideShapes Go.ChangeAt Go.RowKit

theorem lc_one (z : Nat → Int) : lcTo (sumH fun _ => z) 1 = sumTo z 8 := by
  simp only [lcTo, sumH]
  rw [Int.one_gcd]
  simp
theorem num_one (z : Nat → Int) (h : 0 < sumTo z 8) (k : Nat) : numR (fun _ => z) 1 0 k = z k := by
  unfold numR
  rw [lc_one z]
  simp only [sumH]
  rw [Int.ediv_self (by omega), Int.mul_one]
theorem lcOk_one (z : Nat → Int) (h : 0 < sumTo z 8) (h2 : sumTo z 8 ≤ 8000) : LcOk (sumH fun _ => z) 1 :=
  LcOk.of (c := 8000) (fun _ _ => ⟨h, h2⟩) (by omega) (by omega) (by omega)

set_option maxRecDepth 100000 in
set_option maxHeartbeats 4000000 in
theorem implShC_yes (x0 x1 x2 x3 x4 x5 x6 x7 : Int) (hok : okH (z8 x0 x1 x2 x3 x4 x5 x6 x7) = true) (hn : ¬ sumTo (z8 x0 x1 x2 x3 x4 x5 x6 x7) 8 = 0) (hb : Nat) (w : World) (hH : HeapAt w hb 0 (z8 x0 x1 x2 x3 x4 x5 x6 x7)) :
    Calls Try.prog 52 #[.pointer (some ⟨hb, 0, none⟩)] w fun e w' => ∃ u, e = .returned u ∧ OwnFc w' w.heap.size u (lowL (z8 x0 x1 x2 x3 x4 x5 x6 x7) (sumTo (z8 x0 x1 x2 x3 x4 x5 x6 x7) 8)) ∧ Below w.heap.size w w' := by
  have c0 : w.cell? ⟨hb, 0, none⟩ = some (.int .i32 x0) := by have := hH 0 (by omega); rwa [Nat.zero_add] at this
  have c1 : w.cell? ⟨hb, 1, none⟩ = some (.int .i32 x1) := by have := hH 1 (by omega); rwa [Nat.zero_add] at this
  have c2 : w.cell? ⟨hb, 2, none⟩ = some (.int .i32 x2) := by have := hH 2 (by omega); rwa [Nat.zero_add] at this
  have c3 : w.cell? ⟨hb, 3, none⟩ = some (.int .i32 x3) := by have := hH 3 (by omega); rwa [Nat.zero_add] at this
  have c4 : w.cell? ⟨hb, 4, none⟩ = some (.int .i32 x4) := by have := hH 4 (by omega); rwa [Nat.zero_add] at this
  have c5 : w.cell? ⟨hb, 5, none⟩ = some (.int .i32 x5) := by have := hH 5 (by omega); rwa [Nat.zero_add] at this
  have c6 : w.cell? ⟨hb, 6, none⟩ = some (.int .i32 x6) := by have := hH 6 (by omega); rwa [Nat.zero_add] at this
  have c7 : w.cell? ⟨hb, 7, none⟩ = some (.int .i32 x7) := by have := hH 7 (by omega); rwa [Nat.zero_add] at this
  have hs8 := sum8_bd hok
  have hpos : 0 < sumTo (z8 x0 x1 x2 x3 x4 x5 x6 x7) 8 := by omega
  obtain ⟨W0, hW0⟩ : ∃ W0, W0 = w.alloc (.cells #[.int .i32 x0, .int .i32 x1, .int .i32 x2, .int .i32 x3, .int .i32 x4, .int .i32 x5, .int .i32 x6, .int .i32 x7] 23) := ⟨_, rfl⟩
  have hA : HeapAt W0 w.heap.size 0 (z8 x0 x1 x2 x3 x4 x5 x6 x7) := hW0 ▸ heapAt_alloc w x0 x1 x2 x3 x4 x5 x6 x7 23
  have hl0 : w.heap.size < W0.heap.size := by rw [hW0]; simp
  have HC := Lib.hid (cs_yes (fun _ => (z8 x0 x1 x2 x3 x4 x5 x6 x7)) 1 1 w.heap.size W0 (by omega) (by omega) (fun i hi => by rw [show i * 8 = 0 by omega]; exact hA) hl0 (fun _ _ => hok) (lcOk_one _ hpos hs8.2))
  have HN := Lib.hid fun k => num_one (z8 x0 x1 x2 x3 x4 x5 x6 x7) hpos k
  have HL := Lib.hid (lc_one (z8 x0 x1 x2 x3 x4 x5 x6 x7))
  have T0 := Lib.hid (show Below w.heap.size w W0 by rw [hW0]; go_grown)
  have HB := Lib.hid (okH_of hok)
  have HW0 := Lib.hid hW0
  clear hW0 hA hl0 hH hok hn
  generalize hz : (z8 x0 x1 x2 x3 x4 x5 x6 x7) = z at *
  clear hz
  generalize hs : sumTo z 8 = s at *
  clear hs
  go_enter Try.func52, Try.ntmps52
  go_wp2_with fail
  rw [← HW0.out]
  refine HC.out.mono ?_
  rintro e w1 ⟨rb, rfl, hrb, hR, hB1⟩
  have hR0 : ∀ k, k < 8 → w1.cell? ⟨rb, k, none⟩ = some (.int .i64 (numR (fun _ => z) 1 0 k)) := fun k hk => by have := (hR 0 k (by omega) hk).1; rwa [Nat.zero_mul, Nat.zero_add] at this
  have r0 := hR0 0 (by omega)
  have r1 := hR0 1 (by omega)
  have r2 := hR0 2 (by omega)
  have r3 := hR0 3 (by omega)
  have r4 := hR0 4 (by omega)
  have r5 := hR0 5 (by omega)
  have r6 := hR0 6 (by omega)
  have r7 := hR0 7 (by omega)
  rw [HL.out]
  have HO := Lib.hid fun wx => over_any (numR (fun _ => z) 1 0) s wx (fun k hk => by rw [HN.out k]; have := HB.out k hk; omega) hpos (by omega)
  have HE := Lib.hid (lowL_congr (n := numR (fun _ => z) 1 0) (m := z) s fun k _ => HN.out k)
  have T1 := Lib.hid (T0.out.trans (hB1.mono T0.out.size))
  generalize numR (fun _ => z) 1 0 = q at *
  clear hR hR0 hrb hB1 HC HB HN c0 c1 c2 c3 c4 c5 c6 c7
  go_wp2_with fail
  refine (HO.out _).mono ?_
  rintro e w2 ⟨u, rfl, hO, hB2⟩
  have HU := Lib.hid hO
  have T2 := Lib.hid (T1.out.trans (hB2.mono T1.out.size))
  have HLE := Lib.hid T1.out.size
  clear hO hB2
  go_wp2_with fail
  go_ret
  refine ⟨_, rfl, ?_, T2.out⟩
  have h := HU.out
  rw [HE.out] at h
  exact ⟨h.1, World.ownsRow.mono h.2 HLE.out⟩

set_option maxRecDepth 100000 in
set_option maxHeartbeats 2000000 in
theorem implShC_no (hb : Nat) (w : World) (hH : HeapAt w hb 0 (z8 0 0 0 0 0 0 0 0)) :
    Calls Try.prog 52 #[.pointer (some ⟨hb, 0, none⟩)] w fun e w' => e = .panicked [{ v := .iface 86 (.agg #[]), recovered := false }] ∧ Below w.heap.size w w' := by
  have c0 : w.cell? ⟨hb, 0, none⟩ = some (.int .i32 0) := by have := hH 0 (by omega); rwa [Nat.zero_add] at this
  have c1 : w.cell? ⟨hb, 1, none⟩ = some (.int .i32 0) := by have := hH 1 (by omega); rwa [Nat.zero_add] at this
  have c2 : w.cell? ⟨hb, 2, none⟩ = some (.int .i32 0) := by have := hH 2 (by omega); rwa [Nat.zero_add] at this
  have c3 : w.cell? ⟨hb, 3, none⟩ = some (.int .i32 0) := by have := hH 3 (by omega); rwa [Nat.zero_add] at this
  have c4 : w.cell? ⟨hb, 4, none⟩ = some (.int .i32 0) := by have := hH 4 (by omega); rwa [Nat.zero_add] at this
  have c5 : w.cell? ⟨hb, 5, none⟩ = some (.int .i32 0) := by have := hH 5 (by omega); rwa [Nat.zero_add] at this
  have c6 : w.cell? ⟨hb, 6, none⟩ = some (.int .i32 0) := by have := hH 6 (by omega); rwa [Nat.zero_add] at this
  have c7 : w.cell? ⟨hb, 7, none⟩ = some (.int .i32 0) := by have := hH 7 (by omega); rwa [Nat.zero_add] at this
  obtain ⟨W0, hW0⟩ : ∃ W0, W0 = w.alloc (.cells #[.int .i32 0, .int .i32 0, .int .i32 0, .int .i32 0, .int .i32 0, .int .i32 0, .int .i32 0, .int .i32 0] 23) := ⟨_, rfl⟩
  have hA : HeapAt W0 w.heap.size 0 (z8 0 0 0 0 0 0 0 0) := hW0 ▸ heapAt_alloc w 0 0 0 0 0 0 0 0 23
  have hl0 : w.heap.size < W0.heap.size := by rw [hW0]; simp
  have HC := Lib.hid (cs_no (fun _ => z8 0 0 0 0 0 0 0 0) 1 1 0 w.heap.size W0 (by omega) (by omega) (fun i hi => by rw [show i * 8 = 0 by omega]; exact hA) hl0 (fun _ _ => by kernel_rfl) ⟨fun i hi => by omega, fun k hk => by rw [show k = 0 by omega]; simp [lcTo]⟩ (by kernel_rfl))
  have T0 := Lib.hid (show Below w.heap.size w W0 by rw [hW0]; go_grown)
  have HW0 := Lib.hid hW0
  clear hW0 hA hl0 hH
  go_enter Try.func52, Try.ntmps52
  go_wp2_with fail
  rw [← HW0.out]
  refine HC.out.mono ?_
  rintro e w1 ⟨rfl, hB⟩
  exact ⟨rfl, rfl, T0.out.trans (hB.mono T0.out.size)⟩
end Go.Proofs.Ytekejhnhkifcfaa
