/-
  No statement is proved here: the fractions that numerators tell, in the program; condition: numbers whose size is at most 9223372036854775807.
-/
import Derived.Test.YtekejhnhkifcfaaSoM
import Derived.Deep.Onto
namespace Go.Proofs.Ytekejhnhkifcfaa
open Go.ChangeShapes Go.WideShapes Go.ChangeAt Go.RowKit

theorem idxN (n : Nat → Int) (k : Nat) (hk : k < 8) : ∀ w : World, (Instr.index 78 (.agg #[.int .i64 (n 0), .int .i64 (n 1), .int .i64 (n 2), .int .i64 (n 3), .int .i64 (n 4), .int .i64 (n 5), .int .i64 (n 6), .int .i64 (n 7)]) (.int .i64 (k : Int))).run Try.prog w = .ok (.int .i64 (n k)) w := by
  match k, hk with
  | 0, _ => exact fun _ => by kernel_rfl
  | 1, _ => exact fun _ => by kernel_rfl
  | 2, _ => exact fun _ => by kernel_rfl
  | 3, _ => exact fun _ => by kernel_rfl
  | 4, _ => exact fun _ => by kernel_rfl
  | 5, _ => exact fun _ => by kernel_rfl
  | 6, _ => exact fun _ => by kernel_rfl
  | 7, _ => exact fun _ => by kernel_rfl
  | k + 8, hk => omega

set_option maxRecDepth 100000 in
set_option maxHeartbeats 4000000 in
theorem over_any (n : Nat → Int) (d : Int) (w : World) (hb : ∀ k, k < 8 → -9223372036854775807 ≤ n k ∧ n k ≤ 9223372036854775807) (hd : 0 < d) (hd' : d ≤ 9223372036854775807) :
    Calls Try.prog 54 #[.agg #[.int .i64 (n 0), .int .i64 (n 1), .int .i64 (n 2), .int .i64 (n 3), .int .i64 (n 4), .int .i64 (n 5), .int .i64 (n 6), .int .i64 (n 7)], .int .i64 d] w fun e w' => ∃ u, e = .returned u ∧ OwnFc w' w.heap.size u (lowL n d) ∧ Below w.heap.size w w' := by
  obtain ⟨i0, hi, hz0, hz1, hz2⟩ := info_parts infoFraction
  obtain ⟨W0, hW0⟩ : ∃ W0, W0 = w.alloc (.cells #[.int .i64 (n 0), .int .i64 (n 1), .int .i64 (n 2), .int .i64 (n 3), .int .i64 (n 4), .int .i64 (n 5), .int .i64 (n 6), .int .i64 (n 7)] 78) := ⟨_, rfl⟩
  have b0 : W0.cell? ⟨w.heap.size, 0, none⟩ = some (.int .i64 (n 0)) := by rw [hW0]; simp [go_sem]
  have b1 : W0.cell? ⟨w.heap.size, 1, none⟩ = some (.int .i64 (n 1)) := by rw [hW0]; simp [go_sem]
  have b2 : W0.cell? ⟨w.heap.size, 2, none⟩ = some (.int .i64 (n 2)) := by rw [hW0]; simp [go_sem]
  have b3 : W0.cell? ⟨w.heap.size, 3, none⟩ = some (.int .i64 (n 3)) := by rw [hW0]; simp [go_sem]
  have b4 : W0.cell? ⟨w.heap.size, 4, none⟩ = some (.int .i64 (n 4)) := by rw [hW0]; simp [go_sem]
  have b5 : W0.cell? ⟨w.heap.size, 5, none⟩ = some (.int .i64 (n 5)) := by rw [hW0]; simp [go_sem]
  have b6 : W0.cell? ⟨w.heap.size, 6, none⟩ = some (.int .i64 (n 6)) := by rw [hW0]; simp [go_sem]
  have b7 : W0.cell? ⟨w.heap.size, 7, none⟩ = some (.int .i64 (n 7)) := by rw [hW0]; simp [go_sem]
  have hs0 : W0.heap.size = w.heap.size + 1 := by rw [hW0]; simp
  have hB0 : Below w.heap.size w W0 := by rw [hW0]; go_grown
  have HW0 := Lib.hid hW0
  have HIX := Lib.hid fun k hk => idxN n k hk
  have HNB := Lib.hid hb
  obtain ⟨F, hF⟩ : ∃ F, F = lowL n d := ⟨_, rfl⟩
  have HFA := Lib.hid fun k hk => lowL_at n d k hk
  have hFl : F.length = 8 := by rw [hF]; rfl
  rw [← hF] at HFA ⊢
  have HR := Lib.hid fun k (hk : k < 8) wx => reduced_any (n k) d wx (hb k hk).1 (hb k hk).2 (by omega) hd' (by omega)
  have HB0 := Lib.hid hB0
  have HS0 := Lib.hid hs0
  clear hW0 hb hF hB0 hs0
  obtain ⟨B, hBe⟩ : ∃ B, B = W0.heap.size := ⟨_, rfl⟩
  have HB := Lib.hid hBe
  clear hBe
  go_enter Try.func54, Try.ntmps54
  go_wp2_with (first | (rw [← HW0.out]; at_make; refine wpList_make_full _ rfl _ _ 45 rfl W0.heap.size 38 i0 (.agg #[.int .i64 0, .int .i64 0]) 2 Try.underlying45 hi hz0 hz1 _ _ _ _ 8 rfl rfl rfl rfl (by rw [hz2]; omega) (by unfold maxLen; omega) (Nat.le_refl _) ?_; intro w1 hown hgrow; have A1 : Below W0.heap.size W0 w1 := (Below.refl _ _).grown hgrow (Nat.le_refl _) (fun k hk => by cases hk); have q0 : w1.cell? ⟨w.heap.size, 0, none⟩ = some (.int .i64 (n 0)) := kept A1 (by rw [HS0.out]; omega) b0; have q1 : w1.cell? ⟨w.heap.size, 1, none⟩ = some (.int .i64 (n 1)) := kept A1 (by rw [HS0.out]; omega) b1; have q2 : w1.cell? ⟨w.heap.size, 2, none⟩ = some (.int .i64 (n 2)) := kept A1 (by rw [HS0.out]; omega) b2; have q3 : w1.cell? ⟨w.heap.size, 3, none⟩ = some (.int .i64 (n 3)) := kept A1 (by rw [HS0.out]; omega) b3; have q4 : w1.cell? ⟨w.heap.size, 4, none⟩ = some (.int .i64 (n 4)) := kept A1 (by rw [HS0.out]; omega) b4; have q5 : w1.cell? ⟨w.heap.size, 5, none⟩ = some (.int .i64 (n 5)) := kept A1 (by rw [HS0.out]; omega) b5; have q6 : w1.cell? ⟨w.heap.size, 6, none⟩ = some (.int .i64 (n 6)) := kept A1 (by rw [HS0.out]; omega) b6; have q7 : w1.cell? ⟨w.heap.size, 7, none⟩ = some (.int .i64 (n 7)) := kept A1 (by rw [HS0.out]; omega) b7; clear b0 b1 b2 b3 b4 b5 b6 b7) | fail)
  have hB1 := Lib.hid (HB0.out.trans (A1.mono (by rw [HS0.out]; omega)))
  have hz0' : (madeCells (Value.agg #[.int .i64 0, .int .i64 0]).cells (8 * 2)).toList = cellsFc (fillFc F 0) := by
    rw [fillFc_zero, hFl]
    exact (zerosFc 8).symm
  rw [hz0', ← HB.out] at hown
  rw [← HB.out]
  have HW := Lib.hid hown
  have HFL := Lib.hid fun k (hk : k ≤ 8) => fillFc_length F k (by omega)
  have HST := Lib.hid fun k (hk : k < 8) => fillFc_step F k (by omega)
  have HL := Lib.hid hFl
  have HLE := Lib.hid (show w.heap.size ≤ B by rw [HB.out, HS0.out]; omega)
  clear hown hgrow A1 hz0' q0 q1 q2 q3 q4 q5 q6 q7
  go_loopw [10] (fun i wr => ∃ k : Nat, k ≤ 8 ∧ i = .int .i64 k ∧ Hid (wr.ownsRow B 38 2 (.slice (some ⟨B, 0, none⟩) 8 8) 8 (cellsFc (fillFc F k))) ∧ Hid (Below w.heap.size w wr)) (fun i _ => 8 - (intOf i).toNat)
  case atStart => exact ⟨0, Nat.zero_le _, rfl, HW, hB1⟩
  case round =>
    obtain ⟨k, hk, rfl, hO, hBe⟩ := hrel
    by_cases hlt : k < 8
    · have hix := HIX.out k hlt
      have HRK := Lib.hid fun wx => HR.out k hlt wx
      go_wp2_with fail
      refine (HRK.out _).mono ?_
      rintro e w2 ⟨rfl, hB2⟩
      have hfill : k < (fillFc F k).length := by rw [HFL.out k hk]; omega
      have hcy := cellsFc_get (fillFc F k) k hfill
      have hO2 : Hid (w2.ownsRow B 38 2 (.slice (some ⟨B, 0, none⟩) 8 8) 8 (cellsFc (fillFc F k))) := by
        refine ⟨hO.out.1, ?_⟩
        rcases hO.out.2 with h2 | ⟨g, cap, cur, hv, hg, hh, r⟩
        · exact .inl h2
        · exact .inr ⟨g, cap, cur, hv, hg, by rw [hB2.block g (lt_of_block hh)]; exact hh, r⟩
      have d0 := (hO2.out.cellAt (k * 2) (by omega)).trans hcy.1
      have f0 : w2.frozen? ⟨B, k * 2, none⟩ = false := hO2.out.frozenAt _
      have d1 := (hO2.out.cellAt (k * 2 + 1) (by omega)).trans hcy.2
      have f1 : w2.frozen? ⟨B, k * 2 + 1, none⟩ = false := hO2.out.frozenAt _
      have hBB := Lib.hid (hBe.out.trans (hB2.mono hBe.out.size))
      have HFI := Lib.hid hfill
      have HFK := Lib.hid (HFA.out k hlt)
      clear hcy hB2 hfill hix
      go_wp2
      go_roundw
      case rel =>
        have s1 := (hO2.out.stored (k * 2) (Value.int .i64 (lowN (n k) d))).1
        have s2 := (s1.stored (k * 2 + 1) (Value.int .i64 (lowD (n k) d))).1
        have e := cellsFc_set (fillFc F k) k (lowN (n k) d, lowD (n k) d) HFI.out
        rw [e, ← HFK.out, HST.out k hlt] at s2
        refine ⟨k + 1, by omega, by go_num, Lib.hid s2, Lib.hid ?_⟩
        exact ((hBB.out.setCell (p := ⟨B, k * 2, none⟩) HLE.out _).setCell (p := ⟨B, k * 2 + 1, none⟩) HLE.out _)
      case measure => simp [intOf]; omega
    · have hkn : k = 8 := by omega
      subst hkn
      have e : fillFc F 8 = F := by have := fillFc_all F; rw [HL.out] at this; exact this
      go_wp2
      go_ret
      refine ⟨_, rfl, ⟨isFc F, ?_⟩, hBe.out⟩
      have h := hO.out
      rw [e] at h
      rw [HL.out]
      exact World.ownsRow.mono h HLE.out
end Go.Proofs.Ytekejhnhkifcfaa
