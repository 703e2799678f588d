/-
  No statement is proved here: the median length of a heap, in the document's own text; condition: numbers that are int32s.
-/
import Derived.Test.YtekejhnhkifcfaaSome
namespace Go.Proofs.Ytekejhnhkifcfaa
open Go.RowKit

/-- The first length up to which there is half of all. -/
def medTo (z : Nat → Int) (all : Int) : Nat → Int
  | 0 => -1
  | k + 1 => if medTo z all k < 0 ∧ all ≤ 2 * sumTo z (k + 1) then (k : Int) else medTo z all k
theorem medTo_none {z : Nat → Int} {all : Int} : ∀ {k : Nat}, (∀ j, j < k → 2 * sumTo z (j + 1) < all) → medTo z all k = -1
  | 0, _ => rfl
  | k + 1, h => by
    rw [medTo, medTo_none (fun j hj => h j (by omega)), if_neg]
    rintro ⟨_, h2⟩
    have := h k (by omega)
    omega
theorem medTo_at {z : Nat → Int} {all : Int} {k : Nat} (h : ∀ j, j < k → 2 * sumTo z (j + 1) < all) (hk : all ≤ 2 * sumTo z (k + 1)) : ∀ m, k < m → medTo z all m = (k : Int)
  | 0, hm => absurd hm (Nat.not_lt_zero k)
  | m + 1, hm => by
    by_cases e : m = k
    · subst e
      rw [medTo, medTo_none h, if_pos ⟨by omega, hk⟩]
    · rw [medTo, medTo_at h hk m (by omega), if_neg]
      rintro ⟨h1, _⟩
      omega
theorem sumTo_mono {z : Nat → Int} (h : okH z = true) : ∀ {j k : Nat}, j ≤ k → k ≤ 8 → sumTo z j ≤ sumTo z k
  | j, 0, hj, _ => by rw [show j = 0 by omega]; exact Int.le_refl _
  | j, k + 1, hj, hk => by
    by_cases e : j = k + 1
    · rw [e]; exact Int.le_refl _
    · have := sumTo_mono h (j := j) (k := k) (by omega) (by omega)
      have b := okH_of h k (by omega)
      rw [show sumTo z (k + 1) = sumTo z k + z k from rfl]
      omega
theorem sumTo_ok {z : Nat → Int} (h : okH z = true) : ∀ {k : Nat}, k ≤ 8 → 0 ≤ sumTo z k ∧ sumTo z k ≤ 1000 * (k : Int)
  | 0, _ => by simp [sumTo]
  | k + 1, hk => by
    have ih := sumTo_ok h (k := k) (by omega)
    have b := okH_of h k (by omega)
    rw [show sumTo z (k + 1) = sumTo z k + z k from rfl]
    push_cast
    omega
/-- What MedianLength answers. -/
def medF (z : Nat → Int) : Int × Int := if someF z = 0 then (medTo z (sumTo z 8) 8, 0) else (0, someF z)
theorem someF_parts {z : Nat → Int} (h : someF z = 0) : okH z = true ∧ ¬ sumTo z 8 = 0 := by
  unfold someF at h
  split at h
  · rename_i h1
    split at h
    · simp at h
    · exact ⟨h1, by assumption⟩
  · simp at h

set_option maxRecDepth 100000 in
set_option maxHeartbeats 2000000 in
theorem specMed_any (x0 x1 x2 x3 x4 x5 x6 x7 : Int) (w : World) (hz : bd32 (z8 x0 x1 x2 x3 x4 x5 x6 x7)) :
    Calls Try.prog 24 #[.agg #[.int .i32 x0, .int .i32 x1, .int .i32 x2, .int .i32 x3, .int .i32 x4, .int .i32 x5, .int .i32 x6, .int .i32 x7]] w fun e w' => e = .returned (.tuple #[.int .i64 (medF (z8 x0 x1 x2 x3 x4 x5 x6 x7)).1, .int .i64 (medF (z8 x0 x1 x2 x3 x4 x5 x6 x7)).2]) ∧ Below w.heap.size w w' := by
  obtain ⟨W0, hW0⟩ : ∃ W0, W0 = w.alloc (.cells #[.int .i32 x0, .int .i32 x1, .int .i32 x2, .int .i32 x3, .int .i32 x4, .int .i32 x5, .int .i32 x6, .int .i32 x7] 23) := ⟨_, rfl⟩
  have hH : HeapAt W0 w.heap.size 0 (z8 x0 x1 x2 x3 x4 x5 x6 x7) := hW0 ▸ heapAt_alloc w x0 x1 x2 x3 x4 x5 x6 x7 23
  have T0 := Lib.hid (show Below w.heap.size w W0 by rw [hW0]; go_grown)
  have HS := Lib.hid (specSome_any (z8 x0 x1 x2 x3 x4 x5 x6 x7) w.heap.size 0 W0 hH hz)
  have HG := Lib.hid (l01Grams_any (z8 x0 x1 x2 x3 x4 x5 x6 x7) w.heap.size 0 W0 hH hz)
  have HH := Lib.hid hH
  have HW0 := Lib.hid hW0
  clear hH hW0 hz
  generalize z8 x0 x1 x2 x3 x4 x5 x6 x7 = z at *
  unfold medF
  by_cases hs : someF z = 0
  · rw [if_pos hs]
    rw [hs] at HS
    obtain ⟨hok, hn⟩ := someF_parts hs
    have HSB := Lib.hid fun k (hk : k ≤ 8) => sumTo_ok hok hk
    have HOK := Lib.hid fun k (hk : k < 8) => okH_of hok k hk
    have HMT := Lib.hid fun k (h1 : ∀ j, j < k → 2 * sumTo z (j + 1) < sumTo z 8) h2 h3 => medTo_at (z := z) (all := sumTo z 8) h1 h2 8 h3
    have HST := Lib.hid fun k => show sumTo z (k + 1) = sumTo z k + z k from rfl
    have hsp : 0 < sumTo z 8 := by have := sumTo_ok hok (Nat.le_refl 8); omega
    have hsb : sumTo z 8 ≤ 8000 := by have := sumTo_ok hok (Nat.le_refl 8); omega
    have HZ8 := Lib.hid (show sumTo z 0 = 0 from rfl)
    obtain ⟨all, hall⟩ : ∃ all, all = sumTo z 8 := ⟨_, rfl⟩
    have HALL := Lib.hid hall
    rw [← hall] at HG HMT hsp hsb ⊢
    clear hs hok hn hall
    generalize medTo z all 8 = R at *
    go_enter Try.func24, Try.ntmps24
    go_wp2_with fail
    rw [← HW0.out]
    refine HS.out.mono ?_
    rintro e w1 ⟨rfl, rfl⟩
    go_wp2_with fail
    refine HG.out.mono ?_
    rintro e w1 ⟨rfl, rfl⟩
    go_wp2_with fail
    go_loop [6, 7] (fun s i => ∃ k : Nat, k ≤ 8 ∧ i = .int .i64 k ∧ s = .int .i64 (sumTo z k) ∧ Hid (∀ j, j < k → 2 * sumTo z j < all)) (fun _ i => 8 - (intOf i).toNat)
    case atStart => exact ⟨0, Nat.zero_le _, rfl, by rw [HZ8.out], fun j hj => absurd hj (Nat.not_lt_zero j)⟩
    case round =>
      obtain ⟨k, hk, rfl, rfl, hA⟩ := hrel
      have hwb := HSB.out k hk
      by_cases hlt : 2 * sumTo z k < all
      · have hk8 : k < 8 := by
          rcases Nat.lt_or_ge k 8 with h | h
          · exact h
          · exfalso
            have : k = 8 := by omega
            subst this
            rw [← HALL.out] at hlt
            omega
        have hc : W0.cell? ⟨w.heap.size, k, none⟩ = some (.int .i32 (z k)) := by
          have := HH.out k hk8
          rwa [Nat.zero_add] at this
        have hb := HOK.out k hk8
        have HA2 := Lib.hid (show ∀ j, j < k + 1 → 2 * sumTo z j < all from fun j hj => by
          by_cases e : j = k
          · rw [e]; exact hlt
          · exact hA.out j (by omega))
        have HST2 := Lib.hid (HST.out k)
        generalize hy : z k = y at *
        clear hy
        generalize sumTo z k = t at *
        have hkI : (k : Int) < 8 := by omega
        clear hA
        go_wp2
        go_round
        case rel => exact ⟨k + 1, by omega, by go_num, by rw [HST2.out], HA2⟩
        case measure => simp [intOf]; omega
      · have hk0 : 0 < k := by
          rcases Nat.eq_zero_or_pos k with h | h
          · subst h
            rw [HZ8.out] at hlt
            omega
          · exact h
        obtain ⟨k, rfl⟩ : ∃ j, k = j + 1 := ⟨k - 1, by omega⟩
        have hR := HMT.out k (fun j hj => hA.out (j + 1) (by omega)) (by omega) (by omega)
        subst hR
        have hge : all ≤ 2 * sumTo z (k + 1) := by omega
        have hd : decide (2 * sumTo z (k + 1) < all) = false := by rw [decide_eq_false_iff_not]; exact hlt
        generalize sumTo z (k + 1) = t at *
        clear hA HMT HST HSB
        go_wp2_with fail
        go_ret2
        exact ⟨by simp, T0.out⟩
  · rw [if_neg hs]
    have hne : (someF z != 0) = true := by rw [bne_iff_ne]; exact hs
    generalize someF z = code at *
    clear hs
    go_enter Try.func24, Try.ntmps24
    go_wp2_with fail
    rw [← HW0.out]
    refine HS.out.mono ?_
    rintro e w1 ⟨rfl, rfl⟩
    go_wp2_with fail
    go_ret2
    exact ⟨rfl, T0.out⟩
end Go.Proofs.Ytekejhnhkifcfaa
