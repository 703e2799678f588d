/-
  No statement is proved here: OffBy in the document's own text; condition: numbers that are int32s.
-/
import Derived.Test.YtekejhnhkifcfaaOfM
import Derived.Test.YtekejhnhkifcfaaSize
import Derived.IntWalk
namespace Go.Proofs.Ytekejhnhkifcfaa
open Go.RowKit

/-- Two heaps' boxes, and an empty fraction's behind them. -/
def OB (w W : World) (a b : Nat → Int) : Prop := HeapAt W w.heap.size 0 a ∧ HeapAt W (w.heap.size + 1) 0 b ∧ ((W.cell? ⟨w.heap.size + 2, 0, none⟩ = some (.int .i64 0) ∧ W.cell? ⟨w.heap.size + 2, 1, none⟩ = some (.int .i64 0)) ∧ (W.frozen? ⟨w.heap.size + 2, 0, none⟩ = false ∧ W.frozen? ⟨w.heap.size + 2, 1, none⟩ = false)) ∧ Below w.heap.size w W
theorem OB.made (w : World) (x0 x1 x2 x3 x4 x5 x6 x7 y0 y1 y2 y3 y4 y5 y6 y7 : Int) (T U V : TypeId) : OB w (((w.alloc (.cells #[.int .i32 x0, .int .i32 x1, .int .i32 x2, .int .i32 x3, .int .i32 x4, .int .i32 x5, .int .i32 x6, .int .i32 x7] T)).alloc (.cells #[.int .i32 y0, .int .i32 y1, .int .i32 y2, .int .i32 y3, .int .i32 y4, .int .i32 y5, .int .i32 y6, .int .i32 y7] U)).alloc (.cells #[.int .i64 0, .int .i64 0] V)) (z8 x0 x1 x2 x3 x4 x5 x6 x7) (z8 y0 y1 y2 y3 y4 y5 y6 y7) := by
  have e := heapAt_alloc (w.alloc (.cells #[.int .i32 x0, .int .i32 x1, .int .i32 x2, .int .i32 x3, .int .i32 x4, .int .i32 x5, .int .i32 x6, .int .i32 x7] T)) y0 y1 y2 y3 y4 y5 y6 y7 U
  rw [World.size_alloc] at e
  exact ⟨(heapAt_alloc w x0 x1 x2 x3 x4 x5 x6 x7 T).below (((Below.refl (w.heap.size + 1) _).alloc (by simp) _).alloc (by simp) _) (by omega), e.below ((Below.refl (w.heap.size + 2) _).alloc (by simp) _) (by omega), ⟨⟨by simp [go_sem], by simp [go_sem]⟩, ⟨by simp [go_sem], by simp [go_sem]⟩⟩, by go_grown⟩
theorem OB.next {w W W' : World} {a b : Nat → Int} (H : OB w W a b) (hB : Below W.heap.size W W') : OB w W' a b := by
  obtain ⟨h1, h2, ⟨⟨c0, c1⟩, ⟨f0, f1⟩⟩, hb⟩ := H
  have l3 := World.block_lt_of_cell? _ _ c0
  exact ⟨h1.below hB h1.lt, h2.below hB h2.lt, ⟨⟨kept hB l3 c0, kept hB l3 c1⟩, ⟨(hB.frozen (p := ⟨w.heap.size + 2, 0, none⟩) l3).trans f0, (hB.frozen (p := ⟨w.heap.size + 2, 1, none⟩) l3).trans f1⟩⟩, hb.trans (hB.mono hb.size)⟩

set_option maxRecDepth 100000 in
set_option maxHeartbeats 4000000 in
theorem specOff_any (x0 x1 x2 x3 x4 x5 x6 x7 y0 y1 y2 y3 y4 y5 y6 y7 : Int) (w : World) (hx : bd32 (z8 x0 x1 x2 x3 x4 x5 x6 x7)) (hy : bd32 (z8 y0 y1 y2 y3 y4 y5 y6 y7)) :
    Calls Try.prog 31 #[.agg #[.int .i32 x0, .int .i32 x1, .int .i32 x2, .int .i32 x3, .int .i32 x4, .int .i32 x5, .int .i32 x6, .int .i32 x7], .agg #[.int .i32 y0, .int .i32 y1, .int .i32 y2, .int .i32 y3, .int .i32 y4, .int .i32 y5, .int .i32 y6, .int .i32 y7]] w fun e w' => e = .returned (.tuple #[.agg #[.int .i64 (offF (z8 x0 x1 x2 x3 x4 x5 x6 x7) (z8 y0 y1 y2 y3 y4 y5 y6 y7)).1, .int .i64 (offF (z8 x0 x1 x2 x3 x4 x5 x6 x7) (z8 y0 y1 y2 y3 y4 y5 y6 y7)).2.1], .int .i64 (offF (z8 x0 x1 x2 x3 x4 x5 x6 x7) (z8 y0 y1 y2 y3 y4 y5 y6 y7)).2.2]) ∧ Below w.heap.size w w' := by
  have K0 := Lib.hid (OB.made w x0 x1 x2 x3 x4 x5 x6 x7 y0 y1 y2 y3 y4 y5 y6 y7 23 23 38)
  obtain ⟨W0, hW0⟩ : ∃ W0, W0 = (((w.alloc (.cells #[.int .i32 x0, .int .i32 x1, .int .i32 x2, .int .i32 x3, .int .i32 x4, .int .i32 x5, .int .i32 x6, .int .i32 x7] 23)).alloc (.cells #[.int .i32 y0, .int .i32 y1, .int .i32 y2, .int .i32 y3, .int .i32 y4, .int .i32 y5, .int .i32 y6, .int .i32 y7] 23)).alloc (.cells #[.int .i64 0, .int .i64 0] 38)) := ⟨_, rfl⟩
  rw [← hW0] at K0
  have HW0 := Lib.hid hW0
  have HA := Lib.hid (l01Heap_any _ w.heap.size 0 W0 K0.out.1 hx)
  have HB := Lib.hid (l01Heap_any _ (w.heap.size + 1) 0 W0 K0.out.2.1 hy)
  have GA := Lib.hid (l01Grams_any _ w.heap.size 0 W0 K0.out.1 hx)
  have GB := Lib.hid (l01Grams_any _ (w.heap.size + 1) 0 W0 K0.out.2.1 hy)
  have HC := Lib.hid fun k (hk : k < 8) => (show W0.cell? ⟨w.heap.size, k, none⟩ = some (.int .i32 ((z8 x0 x1 x2 x3 x4 x5 x6 x7) k)) by have := K0.out.1 k hk; rwa [Nat.zero_add] at this)
  have HD := Lib.hid fun k (hk : k < 8) => (show W0.cell? ⟨w.heap.size + 1, k, none⟩ = some (.int .i32 ((z8 y0 y1 y2 y3 y4 y5 y6 y7) k)) by have := K0.out.2.1 k hk; rwa [Nat.zero_add] at this)
  obtain ⟨⟨r0, r1⟩, ⟨f0, f1⟩⟩ := K0.out.2.2.1
  have T0 := Lib.hid K0.out.2.2.2
  have HZ0 := Lib.hid (World.block_lt_of_cell? _ _ r0)
  clear hW0 hx hy K0
  generalize (z8 x0 x1 x2 x3 x4 x5 x6 x7) = a at *
  generalize (z8 y0 y1 y2 y3 y4 y5 y6 y7) = b at *
  by_cases hab : okH a = true ∧ okH b = true
  · obtain ⟨ha, hb⟩ := hab
    rw [ha] at HA
    rw [hb] at HB
    by_cases hz : sumTo a 8 = 0 ∨ sumTo b 8 = 0
    · have hqe := Lib.hid (offF_none ha hb hz)
      clear ha hb
      obtain ⟨p, hp⟩ : ∃ p, p = sumTo a 8 := ⟨_, rfl⟩
      obtain ⟨q, hq⟩ : ∃ q, q = sumTo b 8 := ⟨_, rfl⟩
      rw [← hp] at GA hz
      rw [← hq] at GB hz
      clear hp hq
      have hpe : (p == 0) = decide (p = 0) := by rw [Bool.eq_iff_iff]; simp
      by_cases h0 : p = 0
      · subst h0
        clear hz hpe
        go_enter Try.func31, Try.ntmps31
        go_wp2_with fail
        rw [← HW0.out]
        refine HA.out.mono ?_
        rintro e w1 ⟨rfl, rfl⟩
        go_wp2_with fail
        refine HB.out.mono ?_
        rintro e w1 ⟨rfl, rfl⟩
        go_wp2_with fail
        refine GA.out.mono ?_
        rintro e w1 ⟨rfl, rfl⟩
        go_wp2_with fail
        refine GB.out.mono ?_
        rintro e w1 ⟨rfl, rfl⟩
        obtain ⟨e0, e1⟩ := resF (.int .i64 0) (.int .i64 0) r0 r1
        go_wp2_with fail
        refine bodyPost_ret (by simp [results, Try.results31, go_sem, e0, e1]; try rfl) rfl ?_
        rw [hqe.out]
        exact ⟨rfl, (T0.out.setCell (p := ⟨w.heap.size + 2, 0, none⟩) (Nat.le_add_right _ _) _).setCell (p := ⟨w.heap.size + 2, 1, none⟩) (Nat.le_add_right _ _) _⟩
      · have hq0 : q = 0 := hz.resolve_left h0
        subst hq0
        have hpf : (p == 0) = false := by simpa using h0
        clear hz hpe
        go_enter Try.func31, Try.ntmps31
        go_wp2_with fail
        rw [← HW0.out]
        refine HA.out.mono ?_
        rintro e w1 ⟨rfl, rfl⟩
        go_wp2_with fail
        refine HB.out.mono ?_
        rintro e w1 ⟨rfl, rfl⟩
        go_wp2_with fail
        refine GA.out.mono ?_
        rintro e w1 ⟨rfl, rfl⟩
        go_wp2_with fail
        refine GB.out.mono ?_
        rintro e w1 ⟨rfl, rfl⟩
        obtain ⟨e0, e1⟩ := resF (.int .i64 0) (.int .i64 0) r0 r1
        go_wp2_with fail
        refine bodyPost_ret (by simp [results, Try.results31, go_sem, e0, e1]; try rfl) rfl ?_
        rw [hqe.out]
        exact ⟨rfl, (T0.out.setCell (p := ⟨w.heap.size + 2, 0, none⟩) (Nat.le_add_right _ _) _).setCell (p := ⟨w.heap.size + 2, 1, none⟩) (Nat.le_add_right _ _) _⟩
    · have hqe := Lib.hid (offF_yes ha hb hz)
      have hp8 := sum8_bd ha
      have hq8 := sum8_bd hb
      have HOA := Lib.hid (okH_of ha)
      have HOB := Lib.hid (okH_of hb)
      clear ha hb
      obtain ⟨p, hp⟩ : ∃ p, p = sumTo a 8 := ⟨_, rfl⟩
      obtain ⟨q, hq⟩ : ∃ q, q = sumTo b 8 := ⟨_, rfl⟩
      rw [← hp] at GA hz hqe hp8
      rw [← hq] at GB hz hqe hq8
      clear hp hq
      have hp0 : 0 < p := by omega
      have hq0 : 0 < q := by omega
      have hpf : (p == 0) = false := by simp; omega
      have hqf : (q == 0) = false := by simp; omega
      have hpn : ¬ p = 0 := by omega
      have hqn : ¬ q = 0 := by omega
      have mul2 : ∀ u v : Int, 0 ≤ u → u ≤ 1000 → 0 ≤ v → v ≤ 8000 → 0 ≤ u * v ∧ u * v ≤ 8000000 := fun u v h1 h2 h3 h4 => by
        refine ⟨Int.mul_nonneg h1 h3, ?_⟩
        have := Int.mul_le_mul h2 h4 h3 (by omega)
        omega
      have HFB := Lib.hid fun k (hk : k < 8) => mul2 (a k) q (HOA.out k hk).1 (HOA.out k hk).2 hq8.1 hq8.2
      have HGB := Lib.hid fun k (hk : k < 8) => mul2 (b k) p (HOB.out k hk).1 (HOB.out k hk).2 hp8.1 hp8.2
      have HDB := Lib.hid fun k (hk : k ≤ 8) => dsum_bd (f := fun k => a k * q) (g := fun k => b k * p) (c := 8000000) HFB.out HGB.out (k := k) hk
      have HST : Hid (∀ k, dsum (fun k => a k * q) (fun k => b k * p) (k + 1) = dsum (fun k => a k * q) (fun k => b k * p) k + ((a k * q - b k * p).natAbs : Int)) := Lib.hid (dsum_succ (fun k => a k * q) (fun k => b k * p))
      have hpq : 0 < p * q ∧ p * q ≤ 64000000 := by
        refine ⟨Int.mul_pos hp0 hq0, ?_⟩
        have := Int.mul_le_mul hp8.2 hq8.2 hq8.1 (by omega)
        omega
      have hd8 := HDB.out 8 (Nat.le_refl _)
      have HM := Lib.hid fun wx => make_any (dsum (fun k => a k * q) (fun k => b k * p) 8) (p * q) wx (by omega) (by omega) hpq.1 (by omega)
      have HD0 : Hid (dsum (fun k => a k * q) (fun k => b k * p) 0 = 0) := Lib.hid rfl
      generalize hds : dsum (fun k => a k * q) (fun k => b k * p) = ds at *
      clear hds mul2 hz hd8
      generalize lowN (ds 8) (p * q) = rn at *
      generalize lowD (ds 8) (p * q) = rd at *
      go_enter Try.func31, Try.ntmps31
      go_wp2_with fail
      rw [← HW0.out]
      refine HA.out.mono ?_
      rintro e w1 ⟨rfl, rfl⟩
      go_wp2_with fail
      refine HB.out.mono ?_
      rintro e w1 ⟨rfl, rfl⟩
      go_wp2_with fail
      refine GA.out.mono ?_
      rintro e w1 ⟨rfl, rfl⟩
      go_wp2_with fail
      refine GB.out.mono ?_
      rintro e w1 ⟨rfl, rfl⟩
      go_wp2_with fail
      go_loopw [8, 9] (fun s i wr => ∃ k : Nat, k ≤ 8 ∧ i = .int .i64 k ∧ s = .int .i64 (ds k) ∧ ∃ n, wr = W0.drewN n) (fun _ i _ => 8 - (intOf i).toNat)
      case atStart => exact ⟨0, Nat.zero_le _, rfl, by rw [HD0.out], 0, rfl⟩
      case round =>
        obtain ⟨k, hk, rfl, rfl, nd, rfl⟩ := hrel
        have hwb := HDB.out k hk
        by_cases hlt : k < 8
        · have c0 : (W0.drewN nd).cell? ⟨w.heap.size, k, none⟩ = some (.int .i32 (a k)) := HC.out k hlt
          have c1 : (W0.drewN nd).cell? ⟨w.heap.size + 1, k, none⟩ = some (.int .i32 (b k)) := HD.out k hlt
          have c0' : W0.cell? ⟨w.heap.size, k, none⟩ = some (.int .i32 (a k)) := HC.out k hlt
          have c1' : W0.cell? ⟨w.heap.size + 1, k, none⟩ = some (.int .i32 (b k)) := HD.out k hlt
          have b0 := HOA.out k hlt
          have b1 := HOB.out k hlt
          have b2 : 0 ≤ a k * q ∧ a k * q ≤ 8000000 := HFB.out k hlt
          have b3 : 0 ≤ b k * p ∧ b k * p ≤ 8000000 := HGB.out k hlt
          have hst := HST.out k
          have hwb2 := HDB.out (k + 1) hlt
          obtain ⟨m1, hm1⟩ : ∃ m, m = a k * q := ⟨_, rfl⟩
          obtain ⟨m2, hm2⟩ : ∃ m, m = b k * p := ⟨_, rfl⟩
          rw [← hm1] at b2 hst
          rw [← hm2] at b3 hst
          generalize a k = y at *
          generalize b k = z at *
          have u1 : IntKind.i64.wrap y = y := IntWalk.i64_in _ (by omega)
          have u2 : IntKind.i64.wrap z = z := IntWalk.i64_in _ (by omega)
          have u3 : IntKind.i64.wrap (y * q) = m1 := by rw [← hm1]; exact IntWalk.i64_in _ (by omega)
          have u4 : IntKind.i64.wrap (z * p) = m2 := by rw [← hm2]; exact IntWalk.i64_in _ (by omega)
          have u5 : IntKind.i64.wrap (m1 - m2) = m1 - m2 := IntWalk.i64_in _ (by omega)
          have hzs := HST.out
          obtain ⟨t, ht⟩ : ∃ t, t = ds k := ⟨_, rfl⟩
          rw [← ht] at hst hwb ⊢
          have u6 : IntKind.i64.wrap (t + ((m1 - m2).natAbs : Int)) = ds (k + 1) := by rw [hst]; exact IntWalk.i64_in _ (by omega)
          have HSZ := Lib.hid fun wx => l01Size_any (m1 - m2) wx (by omega) (by omega)
          have hkI : (k : Int) < 8 := by omega
          generalize hnx : ds (k + 1) = nx at *
          have HNX := Lib.hid hnx
          clear hm1 hm2 hst ht hzs hnx b2 b3 hwb hwb2
          obtain ⟨dm, hdm⟩ : ∃ dm, dm = m1 - m2 := ⟨_, rfl⟩
          rw [← hdm] at u6 HSZ
          have u9 : IntKind.i64.wrap (m1 - m2) = dm := by rw [u5, hdm]
          clear hdm u5
          go_wp2_with fail
          go_quiet ((go_at_call 55; exact (HSZ.out _).mono fun _ _ ⟨he, hw⟩ => ⟨he, _, hw.symm⟩))
          go_wp2_with fail
          go_roundw
          case rel => exact ⟨k + 1, by omega, by go_num, by rw [HNX.out], _, rfl⟩
          case measure => simp [intOf]; omega
        · obtain rfl : k = 8 := by omega
          have T1 := Lib.hid (show Below w.heap.size w (W0.drewN nd) from below_drewN T0.out nd)
          have r0 : (W0.drewN nd).cell? ⟨w.heap.size + 2, 0, none⟩ = some (.int .i64 0) := r0
          have r1 : (W0.drewN nd).cell? ⟨w.heap.size + 2, 1, none⟩ = some (.int .i64 0) := r1
          have f0 : (W0.drewN nd).frozen? ⟨w.heap.size + 2, 0, none⟩ = false := f0
          have f1 : (W0.drewN nd).frozen? ⟨w.heap.size + 2, 1, none⟩ = false := f1
          have HZ1 := Lib.hid (show w.heap.size + 2 < (W0.drewN nd).heap.size from HZ0.out)
          generalize W0.drewN nd = W1 at *
          have u7 : IntKind.i64.wrap (p * q) = p * q := IntWalk.i64_in _ (by omega)
          obtain ⟨pq, hpqe⟩ : ∃ pq, pq = p * q := ⟨_, rfl⟩
          rw [← hpqe] at HM hpq
          rw [← hpqe] at u7
          have u8 : IntKind.i64.wrap (p * q) = pq := by rw [← hpqe]; exact u7
          clear u7 hpqe hwb
          go_wp2_with fail
          refine (HM.out _).mono ?_
          rintro e w3 ⟨rfl, hB⟩
          have c0 := kept hB HZ1.out r0
          have c1 := kept hB HZ1.out r1
          have g0 := (hB.frozen (p := ⟨w.heap.size + 2, 0, none⟩) HZ1.out).trans f0
          have g1 := (hB.frozen (p := ⟨w.heap.size + 2, 1, none⟩) HZ1.out).trans f1
          have T3 := Lib.hid (T1.out.trans (hB.mono T1.out.size))
          clear hB r0 r1 f0 f1
          obtain ⟨e0, e1⟩ := resF (.int .i64 rn) (.int .i64 rd) c0 c1
          go_wp2_with fail
          refine bodyPost_ret (by simp [results, Try.results31, go_sem, e0, e1]; try rfl) rfl ?_
          rw [hqe.out]
          exact ⟨rfl, (T3.out.setCell (p := ⟨w.heap.size + 2, 0, none⟩) (Nat.le_add_right _ _) _).setCell (p := ⟨w.heap.size + 2, 1, none⟩) (Nat.le_add_right _ _) _⟩
  · have hqe := Lib.hid (offF_bad hab)
    cases ha : okH a with
    | false =>
      rw [ha] at HA
      clear hab ha
      go_enter Try.func31, Try.ntmps31
      go_wp2_with fail
      rw [← HW0.out]
      refine HA.out.mono ?_
      rintro e w1 ⟨rfl, rfl⟩
      obtain ⟨e0, e1⟩ := resF (.int .i64 0) (.int .i64 0) r0 r1
      go_wp2_with fail
      refine bodyPost_ret (by simp [results, Try.results31, go_sem, e0, e1]; try rfl) rfl ?_
      rw [hqe.out]
      exact ⟨rfl, (T0.out.setCell (p := ⟨w.heap.size + 2, 0, none⟩) (Nat.le_add_right _ _) _).setCell (p := ⟨w.heap.size + 2, 1, none⟩) (Nat.le_add_right _ _) _⟩
    | true =>
      have hb : okH b = false := by
        cases h : okH b with
        | false => rfl
        | true => exact absurd ⟨ha, h⟩ hab
      rw [ha] at HA
      rw [hb] at HB
      clear hab ha hb
      go_enter Try.func31, Try.ntmps31
      go_wp2_with fail
      rw [← HW0.out]
      refine HA.out.mono ?_
      rintro e w1 ⟨rfl, rfl⟩
      go_wp2_with fail
      refine HB.out.mono ?_
      rintro e w1 ⟨rfl, rfl⟩
      obtain ⟨e0, e1⟩ := resF (.int .i64 0) (.int .i64 0) r0 r1
      go_wp2_with fail
      refine bodyPost_ret (by simp [results, Try.results31, go_sem, e0, e1]; try rfl) rfl ?_
      rw [hqe.out]
      exact ⟨rfl, (T0.out.setCell (p := ⟨w.heap.size + 2, 0, none⟩) (Nat.le_add_right _ _) _).setCell (p := ⟨w.heap.size + 2, 1, none⟩) (Nat.le_add_right _ _) _⟩
end Go.Proofs.Ytekejhnhkifcfaa
