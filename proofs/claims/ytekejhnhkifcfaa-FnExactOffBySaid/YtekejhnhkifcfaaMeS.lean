/-
  No statement is proved here: the mean length of a heap, in the document's own text; condition: numbers that are int32s.
-/
import Derived.Test.YtekejhnhkifcfaaSome
import Derived.Test.YtekejhnhkifcfaaMake
namespace Go.Proofs.Ytekejhnhkifcfaa
open Go.RowKit

/-- The sum of the lengths, by their grams. -/
def wsum (z : Nat → Int) : Nat → Int
  | 0 => 0
  | k + 1 => wsum z k + (k : Int) * z k
theorem wsum_bd {z : Nat → Int} (h : okH z = true) : ∀ {k : Nat}, k ≤ 8 → 0 ≤ wsum z k ∧ wsum z k ≤ 8000 * (k : Int)
  | 0, _ => by simp [wsum]
  | k + 1, hk => by
    have ih := wsum_bd h (k := k) (by omega)
    have b := okH_of h k (by omega)
    have e1 : 0 ≤ (k : Int) * z k := Int.mul_nonneg (by omega) b.1
    have e2 : (k : Int) * z k ≤ 8 * 1000 := Int.mul_le_mul (by omega) b.2 b.1 (by omega)
    rw [wsum]
    push_cast
    omega
theorem sum8_bd {z : Nat → Int} (h : okH z = true) : 0 ≤ sumTo z 8 ∧ sumTo z 8 ≤ 8000 := by
  have b0 := okH_of h 0 (by omega)
  have b1 := okH_of h 1 (by omega)
  have b2 := okH_of h 2 (by omega)
  have b3 := okH_of h 3 (by omega)
  have b4 := okH_of h 4 (by omega)
  have b5 := okH_of h 5 (by omega)
  have b6 := okH_of h 6 (by omega)
  have b7 := okH_of h 7 (by omega)
  have e : sumTo z 8 = z 0 + z 1 + z 2 + z 3 + z 4 + z 5 + z 6 + z 7 := by simp [sumTo]
  rw [e]
  omega
theorem resF {w : World} {b : Nat} {u v : Value} (x y : Value) (h0 : w.cell? ⟨b, 0, none⟩ = some u) (h1 : w.cell? ⟨b, 1, none⟩ = some v) :
    (w.setCell ⟨b, 0, none⟩ x).cell? ⟨b, 0, none⟩ = some x ∧ ((w.setCell ⟨b, 0, none⟩ x).setCell ⟨b, 1, none⟩ y).cell? ⟨b, 1, none⟩ = some y :=
  ⟨World.cell?_setCell_same _ _ _ h0, World.cell?_setCell_same _ _ _ ((World.cell?_setCell_other _ _ _ _ (by simp)).trans h1)⟩
/-- What MeanLength answers. -/
def meanF (z : Nat → Int) : Int × Int × Int := if someF z = 0 then (lowN (wsum z 8) (sumTo z 8), lowD (wsum z 8) (sumTo z 8), 0) else (0, 0, someF z)
theorem someF_zero {z : Nat → Int} (h : someF z = 0) : okH z = true ∧ ¬ sumTo z 8 = 0 := by
  unfold someF at h
  split at h
  · rename_i h1
    split at h
    · simp at h
    · exact ⟨h1, by assumption⟩
  · simp at h

set_option maxRecDepth 100000 in
set_option maxHeartbeats 2000000 in
theorem specMean_any (x0 x1 x2 x3 x4 x5 x6 x7 : Int) (w : World) (hz : bd32 (z8 x0 x1 x2 x3 x4 x5 x6 x7)) :
    Calls Try.prog 21 #[.agg #[.int .i32 x0, .int .i32 x1, .int .i32 x2, .int .i32 x3, .int .i32 x4, .int .i32 x5, .int .i32 x6, .int .i32 x7]] w fun e w' => e = .returned (.tuple #[.agg #[.int .i64 (meanF (z8 x0 x1 x2 x3 x4 x5 x6 x7)).1, .int .i64 (meanF (z8 x0 x1 x2 x3 x4 x5 x6 x7)).2.1], .int .i64 (meanF (z8 x0 x1 x2 x3 x4 x5 x6 x7)).2.2]) ∧ Below w.heap.size w w' := by
  obtain ⟨W0, hW0⟩ : ∃ W0, W0 = (w.alloc (.cells #[.int .i32 x0, .int .i32 x1, .int .i32 x2, .int .i32 x3, .int .i32 x4, .int .i32 x5, .int .i32 x6, .int .i32 x7] 23)).alloc (.cells #[.int .i64 0, .int .i64 0] 38) := ⟨_, rfl⟩
  have hH : HeapAt W0 w.heap.size 0 (z8 x0 x1 x2 x3 x4 x5 x6 x7) := hW0 ▸ (heapAt_alloc w x0 x1 x2 x3 x4 x5 x6 x7 23).below ((Below.refl _ _).alloc (Nat.le_refl _) _) (by simp)
  have T0 := Lib.hid (show Below w.heap.size w W0 by rw [hW0]; go_grown)
  have r0 : W0.cell? ⟨w.heap.size + 1, 0, none⟩ = some (.int .i64 0) := by rw [hW0]; simp [go_sem]
  have r1 : W0.cell? ⟨w.heap.size + 1, 1, none⟩ = some (.int .i64 0) := by rw [hW0]; simp [go_sem]
  have f0 : W0.frozen? ⟨w.heap.size + 1, 0, none⟩ = false := by rw [hW0]; simp [go_sem]
  have f1 : W0.frozen? ⟨w.heap.size + 1, 1, none⟩ = false := by rw [hW0]; simp [go_sem]
  have HZ0 := Lib.hid (show w.heap.size + 1 < W0.heap.size by rw [hW0]; simp)
  have HS := Lib.hid (specSome_any (z8 x0 x1 x2 x3 x4 x5 x6 x7) w.heap.size 0 W0 hH hz)
  have HG := Lib.hid (l01Grams_any (z8 x0 x1 x2 x3 x4 x5 x6 x7) w.heap.size 0 W0 hH hz)
  have HH := Lib.hid hH
  have HW0 := Lib.hid hW0
  clear hH hW0 hz
  generalize z8 x0 x1 x2 x3 x4 x5 x6 x7 = z at *
  unfold meanF
  by_cases hs : someF z = 0
  · rw [if_pos hs]
    rw [hs] at HS
    obtain ⟨hok, hn⟩ := someF_zero hs
    have HWB := Lib.hid fun k (hk : k ≤ 8) => wsum_bd hok hk
    have HOK := Lib.hid fun k (hk : k < 8) => okH_of hok k hk
    have hsb := sum8_bd hok
    have HM := Lib.hid fun wx => make_any (wsum z 8) (sumTo z 8) wx (by have := (wsum_bd hok (Nat.le_refl 8)); omega) (by have := (wsum_bd hok (Nat.le_refl 8)); omega) (by omega) (by omega)
    have HST := Lib.hid fun k => show wsum z (k + 1) = wsum z k + (k : Int) * z k from rfl
    generalize lowN (wsum z 8) (sumTo z 8) = rn at *
    generalize lowD (wsum z 8) (sumTo z 8) = rd at *
    obtain ⟨s8, hs8⟩ : ∃ s8, s8 = wsum z 8 := ⟨_, rfl⟩
    have HS8 := Lib.hid hs8
    rw [← hs8] at HM
    generalize sumTo z 8 = s at *
    clear hs hok hn hsb hs8
    go_enter Try.func21, Try.ntmps21
    go_wp2_with fail
    rw [← HW0.out]
    refine HS.out.mono ?_
    rintro e w1 ⟨rfl, rfl⟩
    go_wp2_with fail
    go_loop [5, 6] (fun s i => ∃ k : Nat, k ≤ 8 ∧ i = .int .i64 k ∧ s = .int .i64 (wsum z k)) (fun _ i => 8 - (intOf i).toNat)
    case atStart => exact ⟨0, Nat.zero_le _, rfl, rfl⟩
    case round =>
      obtain ⟨k, hk, rfl, rfl⟩ := hrel
      have hwb := HWB.out k hk
      by_cases hlt : k < 8
      · have hc : W0.cell? ⟨w.heap.size, k, none⟩ = some (.int .i32 (z k)) := by
          have := HH.out k hlt
          rwa [Nat.zero_add] at this
        have hb := HOK.out k hlt
        have hst := HST.out k
        have e1 : 0 ≤ (k : Int) * z k := Int.mul_nonneg (by omega) hb.1
        have e2 : (k : Int) * z k ≤ 8 * 1000 := Int.mul_le_mul (by omega) hb.2 hb.1 (by omega)
        have HST2 := Lib.hid hst
        clear hst
        generalize hy : z k = y at *
        clear hy
        obtain ⟨m, hm⟩ : ∃ m, m = (k : Int) * y := ⟨_, rfl⟩
        have u1 : IntKind.i64.wrap ((k : Int) * y) = m := by rw [← hm]; exact (IntWalk.i64_in _ (by omega)).trans (by omega)
        have u2 : wrap64 ((k : Int) * y) = m := by rw [← hm]; exact (IntWalk.wrap64_in _ (by omega)).trans (by omega)
        rw [← hm] at e1 e2 HST2
        clear hm
        generalize wsum z k = t at *
        have hkI : (k : Int) < 8 := by omega
        go_wp2
        go_round
        case rel => exact ⟨k + 1, by omega, by go_num, by rw [HST2.out]⟩
        case measure => simp [intOf]; omega
      · obtain rfl : k = 8 := by omega
        rw [← HS8.out] at hwb ⊢
        go_wp2_with fail
        refine HG.out.mono ?_
        rintro e w2 ⟨rfl, rfl⟩
        go_wp2_with fail
        refine (HM.out _).mono ?_
        rintro e w3 ⟨rfl, hB⟩
        have c0 := kept hB HZ0.out r0
        have c1 := kept hB HZ0.out r1
        have g0 := (hB.frozen (p := ⟨w.heap.size + 1, 0, none⟩) HZ0.out).trans f0
        have g1 := (hB.frozen (p := ⟨w.heap.size + 1, 1, none⟩) HZ0.out).trans f1
        have T3 := Lib.hid (T0.out.trans (hB.mono T0.out.size))
        clear hB
        obtain ⟨e0, e1⟩ := resF (.int .i64 rn) (.int .i64 rd) c0 c1
        go_wp2_with fail
        refine bodyPost_ret (by simp [results, Try.results21, go_sem, e0, e1]; try rfl) rfl ?_
        exact ⟨rfl, (T3.out.setCell (p := ⟨w.heap.size + 1, 0, none⟩) (Nat.le_succ _) _).setCell (p := ⟨w.heap.size + 1, 1, none⟩) (Nat.le_succ _) _⟩
  · rw [if_neg hs]
    have hne : (someF z != 0) = true := by rw [bne_iff_ne]; exact hs
    generalize someF z = code at *
    clear hs
    go_enter Try.func21, Try.ntmps21
    go_wp2_with fail
    rw [← HW0.out]
    refine HS.out.mono ?_
    rintro e w1 ⟨rfl, rfl⟩
    obtain ⟨e0, e1⟩ := resF (.int .i64 0) (.int .i64 0) r0 r1
    go_wp2_with fail
    refine bodyPost_ret (by simp [results, Try.results21, go_sem, e0, e1]; try rfl) rfl ?_
    exact ⟨rfl, (T0.out.setCell (p := ⟨w.heap.size + 1, 0, none⟩) (Nat.le_succ _) _).setCell (p := ⟨w.heap.size + 1, 1, none⟩) (Nat.le_succ _) _⟩
end Go.Proofs.Ytekejhnhkifcfaa
