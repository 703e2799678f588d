/-
  No statement is proved here: OffBy in the program; conditions as stated.
-/
import Derived.Test.YtekejhnhkifcfaaOfS
import Derived.Test.YtekejhnhkifcfaaLcB
import Derived.Test.YtekejhnhkifcfaaWoF2
import Derived.Deep.RegionWith
namespace Go.Proofs.Ytekejhnhkifcfaa
open Go.RowKit

theorem idxM (n : Nat → Int) (k : Nat) (hk : k < 8) : ∀ w : World, (Instr.index 78 (.agg #[.int .i64 (n 0), .int .i64 (n 1), .int .i64 (n 2), .int .i64 (n 3), .int .i64 (n 4), .int .i64 (n 5), .int .i64 (n 6), .int .i64 (n 7)]) (.int .i64 (k : Int))).run Try.prog w = .ok (.int .i64 (n k)) w := by
  match k, hk with
  | 0, _ => exact fun _ => by kernel_rfl
  | 1, _ => exact fun _ => by kernel_rfl
  | 2, _ => exact fun _ => by kernel_rfl
  | 3, _ => exact fun _ => by kernel_rfl
  | 4, _ => exact fun _ => by kernel_rfl
  | 5, _ => exact fun _ => by kernel_rfl
  | 6, _ => exact fun _ => by kernel_rfl
  | 7, _ => exact fun _ => by kernel_rfl
  | k + 8, hk => omega
/-- Eight numbers in a box. -/
def NumAt (w : World) (b off : Nat) (n : Nat → Int) : Prop := ∀ k : Nat, k < 8 → w.cell? ⟨b, off + k, none⟩ = some (.int .i64 (n k))
theorem numAt_alloc (w : World) (n : Nat → Int) (T : TypeId) : NumAt (w.alloc (.cells #[.int .i64 (n 0), .int .i64 (n 1), .int .i64 (n 2), .int .i64 (n 3), .int .i64 (n 4), .int .i64 (n 5), .int .i64 (n 6), .int .i64 (n 7)] T)) w.heap.size 0 n := fun k hk => by
  rw [Nat.zero_add]
  rcases k with _ | _ | _ | _ | _ | _ | _ | _ | k
  all_goals first | (simp [go_sem]; done) | omega
theorem NumAt.below {w w' : World} {b off B : Nat} {n : Nat → Int} (h : NumAt w b off n) (hB : Below B w w') (hb : b < B) : NumAt w' b off n := fun k hk => kept hB hb (h k hk)

set_option maxRecDepth 100000 in
set_option maxHeartbeats 4000000 in
theorem offBy_any (n m : Nat → Int) (w : World) (hn : ∀ k, k < 8 → 0 ≤ n k ∧ n k ≤ 100000000000000000) (hm : ∀ k, k < 8 → 0 ≤ m k ∧ m k ≤ 100000000000000000) :
    Calls Try.prog 57 #[.agg #[.int .i64 (n 0), .int .i64 (n 1), .int .i64 (n 2), .int .i64 (n 3), .int .i64 (n 4), .int .i64 (n 5), .int .i64 (n 6), .int .i64 (n 7)], .agg #[.int .i64 (m 0), .int .i64 (m 1), .int .i64 (m 2), .int .i64 (m 3), .int .i64 (m 4), .int .i64 (m 5), .int .i64 (m 6), .int .i64 (m 7)]] w fun e w' => e = .returned (.int .i64 (dsum n m 8)) ∧ Below w.heap.size w w' := by
  obtain ⟨W0, hW0⟩ : ∃ W0, W0 = (w.alloc (.cells #[.int .i64 (n 0), .int .i64 (n 1), .int .i64 (n 2), .int .i64 (n 3), .int .i64 (n 4), .int .i64 (n 5), .int .i64 (n 6), .int .i64 (n 7)] 78)).alloc (.cells #[.int .i64 (m 0), .int .i64 (m 1), .int .i64 (m 2), .int .i64 (m 3), .int .i64 (m 4), .int .i64 (m 5), .int .i64 (m 6), .int .i64 (m 7)] 78) := ⟨_, rfl⟩
  have hA : NumAt W0 w.heap.size 0 n := hW0 ▸ (numAt_alloc w n 78).below ((Below.refl _ _).alloc (Nat.le_refl _) _) (by simp)
  have hB : NumAt W0 (w.heap.size + 1) 0 m := by
    have := numAt_alloc (w.alloc (.cells #[.int .i64 (n 0), .int .i64 (n 1), .int .i64 (n 2), .int .i64 (n 3), .int .i64 (n 4), .int .i64 (n 5), .int .i64 (n 6), .int .i64 (n 7)] 78)) m 78
    rw [World.size_alloc] at this
    rw [hW0]
    exact this
  have T0 := Lib.hid (show Below w.heap.size w W0 by rw [hW0]; go_grown)
  have HIX := Lib.hid fun k hk => idxM n k hk
  have b0 : W0.cell? ⟨w.heap.size, 0, none⟩ = some (.int .i64 (n 0)) := by have := hA 0 (by omega); rwa [Nat.zero_add] at this
  have b1 : W0.cell? ⟨w.heap.size, 1, none⟩ = some (.int .i64 (n 1)) := by have := hA 1 (by omega); rwa [Nat.zero_add] at this
  have b2 : W0.cell? ⟨w.heap.size, 2, none⟩ = some (.int .i64 (n 2)) := by have := hA 2 (by omega); rwa [Nat.zero_add] at this
  have b3 : W0.cell? ⟨w.heap.size, 3, none⟩ = some (.int .i64 (n 3)) := by have := hA 3 (by omega); rwa [Nat.zero_add] at this
  have b4 : W0.cell? ⟨w.heap.size, 4, none⟩ = some (.int .i64 (n 4)) := by have := hA 4 (by omega); rwa [Nat.zero_add] at this
  have b5 : W0.cell? ⟨w.heap.size, 5, none⟩ = some (.int .i64 (n 5)) := by have := hA 5 (by omega); rwa [Nat.zero_add] at this
  have b6 : W0.cell? ⟨w.heap.size, 6, none⟩ = some (.int .i64 (n 6)) := by have := hA 6 (by omega); rwa [Nat.zero_add] at this
  have b7 : W0.cell? ⟨w.heap.size, 7, none⟩ = some (.int .i64 (n 7)) := by have := hA 7 (by omega); rwa [Nat.zero_add] at this
  have HB := Lib.hid fun k (hk : k < 8) => (show W0.cell? ⟨w.heap.size + 1, k, none⟩ = some (.int .i64 (m k)) by have := hB k hk; rwa [Nat.zero_add] at this)
  have HDB := Lib.hid fun k (hk : k ≤ 8) => dsum_bd (k := k) hn hm hk
  have HNB := Lib.hid hn
  have HMB := Lib.hid hm
  have HST : Hid (∀ k, dsum n m (k + 1) = dsum n m k + ((n k - m k).natAbs : Int)) := Lib.hid (dsum_succ n m)
  have HD0 : Hid (dsum n m 0 = 0) := Lib.hid rfl
  have HW0 := Lib.hid hW0
  generalize dsum n m = ds at *
  clear hW0 hA hB hn hm
  go_enter Try.func57, Try.ntmps57
  go_wp2_with fail
  rw [← HW0.out]
  go_wp2_with fail
  clear b0 b1 b2 b3 b4 b5 b6 b7
  go_loop [5, 9] (fun s i => ∃ k : Nat, k ≤ 8 ∧ i = .int .i64 k ∧ s = .int .i64 (ds k)) (fun _ i => 8 - (intOf i).toNat)
  case atStart => exact ⟨0, Nat.zero_le _, rfl, by rw [HD0.out]⟩
  case round =>
    obtain ⟨k, hk, rfl, rfl⟩ := hrel
    have hwb := HDB.out k hk
    by_cases hlt : k < 8
    · have c1 := HB.out k hlt
      have hix := HIX.out k hlt
      have b0 := HNB.out k hlt
      have b1 := HMB.out k hlt
      have hst := HST.out k
      generalize n k = y at *
      generalize m k = z at *
      have hkI : (k : Int) < 8 := by omega
      have HSZ := Lib.hid fun wx => size_any (y - z) wx (by omega) (by omega)
      have HNX := Lib.hid hst
      have hb3 : 0 ≤ ds k + ((y - z).natAbs : Int) ∧ ds k + ((y - z).natAbs : Int) ≤ 900000000000000000 := by omega
      clear hst
      go_wp2_with fail
      refine (HSZ.out _).mono ?_
      rintro e w2 ⟨rfl, rfl⟩
      go_wp2_with fail
      go_round
      case rel => exact ⟨k + 1, by omega, by go_num, by rw [HNX.out]⟩
      case measure => simp [intOf]; omega
    · obtain rfl : k = 8 := by omega
      go_wp2_with fail
      go_ret
      exact ⟨rfl, T0.out⟩
end Go.Proofs.Ytekejhnhkifcfaa
