/-
  No statement is proved here: how the program draws stripes out; condition: numbers from 0 to 20000, at least one and at most 1048576 of them.
-/
import Derived.Test.YtpnfombolnaldaaGreatDoorOut
namespace Go.Proofs.YtpnfombolnaldaaGreatDoor
open Go.ChangeShapes Go.WideShapes Go.ChangeAt Go.RowKit

set_option maxRecDepth 100000 in
set_option maxHeartbeats 2000000 in
theorem drawnOut_any (v : Value) (zs : List Int) (w : World) (h : Ints w v zs) (hn : zs.length ≤ 1048576) (hp : 0 < zs.length) (hu : upTo zs 20000 = true) :
    Calls Tryz.prog 54 #[v] w fun e w' => ∃ r, e = .returned r ∧ Own w' w.heap.size r (outD zs) ∧ Below w.heap.size w w' := by
  obtain ⟨i0, hi, hz0, hz1, hz2⟩ := info_parts info64
  by_cases h0 : zs.length = 0
  · omega
  · obtain ⟨b1, o1, c1, rfl, hc1⟩ := h.pos (by omega)
    have U1 := Lib.hid (outD_step zs)
    have U2 := Lib.hid (outD_take zs)
    have U3 := Lib.hid (outD_all zs)
    have U4 := Lib.hid (fun k hk => upTo_get hu k hk)
    have hbw : b1 < w.heap.size := by
      rcases h with ⟨_, _, h1, _⟩ | ⟨b, off, cap, h1, _, hb, _⟩
      · simp only [Value.slice.injEq] at h1; omega
      · simp only [Value.slice.injEq, Option.some.injEq, Addr.mk.injEq] at h1; omega
    obtain ⟨n, hln⟩ : ∃ n, n = zs.length := ⟨_, rfl⟩
    rw [← hln] at U1 U2 U3 U4 hc1 hn h0 ⊢
    have HC := Lib.hid hc1
    clear hc1 hln h hu
    obtain ⟨B, hBe⟩ : ∃ B, B = w.heap.size := ⟨_, rfl⟩
    have HB := Lib.hid hBe
    rw [← hBe] at hbw ⊢
    clear hBe
    go_enter Tryz.func54, Tryz.ntmps54
    go_wp2_with (first | (at_make; refine wpList_make_own _ rfl _ _ 60 rfl w.heap.size 2 i0 (.int .i64 0) 1 Tryz.underlying60 hi hz0 hz1 _ _ _ (2 * n) rfl rfl (by omega) (by rw [hz2]; omega) (by unfold maxLen; omega) (Nat.le_refl _) ?_; intro w1 hown hgrow) | go_in)
    have hB1 : Below B w w1 := (Below.refl _ _).grown hgrow (by rw [HB.out]; exact Nat.le_refl _) (fun k hk => by cases hk)
    rw [← HB.out] at hown
    have S0 : Hid (w1.ownsRow B 2 1 (.slice (some ⟨w.heap.size, 0, none⟩) 0 (2 * n)) (2 * 0) ((outD (zs.take 0)).map (Value.int .i64))) := by
      rw [← HB.out]
      exact hown
    have S1 := Lib.hid hB1
    clear hB1 hown hgrow
    go_loopw [3, 13] (fun v i wr => ∃ (k : Nat) (u : Value), k ≤ n ∧ i = .int .i64 k ∧ u = v ∧ Hid (wr.ownsRow B 2 1 v (2 * k) ((outD (zs.take k)).map (Value.int .i64))) ∧ Hid (Below B w wr)) (fun _ i _ => n - (intOf i).toNat)
    case atStart => exact ⟨0, _, Nat.zero_le _, rfl, rfl, S0, S1⟩
    case round =>
      clear S0 S1
      obtain ⟨k, v, hk, rfl, rfl, hO, hE⟩ := hrel
      by_cases hlt : k < n
      · have c1 : wr.cell? ⟨b1, o1 + k, none⟩ = some (.int .i64 (zs.getD k 0)) := (hE.out.cell (p := ⟨b1, o1 + k, none⟩) hbw).trans (HC.out k hlt)
        have u4 := U4.out k hlt
        have u1 := U1.out k hlt
        obtain ⟨z, hz⟩ : ∃ z, z = zs.getD k 0 := ⟨_, rfl⟩
        rw [← hz] at c1 u4 u1
        have HU := Lib.hid u1
        clear hz u1
        have hszB : B ≤ wr.heap.size := by have := hE.out.size; rw [HB.out]; exact this
        go_wp2_with (first
          | (at_builtin; refine wpList_append_lies _ rfl _ _ _ rfl B 2 i0 (.int .i64 0) 1 8 Tryz.underlying60 hi hz0 hz1 hz2 rfl (by omega) v (2 * k) _ rfl (hO.out.alloc _) ⟨wr.heap.size, 0, none⟩ 2 2 _ rfl rfl (World.news_of_block (heap_alloc_new wr _)) (two_one _ _) (by omega) (by unfold maxLen; omega) (by omega) (by simp; omega) (wr.heap.size + 1) (by simp) ?_; intro gg cap w1 hown1 hgrow hat hlt2)
          | go_in)
        have ez : z - z / 2 = (z + 1) / 2 := by omega
        rw [ez] at hown1
        have hE2 := hE.out.grown (grown_alloc hgrow) hszB (fun j hj => (hO.out.lt j hj).1)
        have HO2 : Hid (w1.ownsRow B 2 1 (.slice (some ⟨gg, 0, none⟩) (2 * k + 2) cap) (2 * (k + 1)) ((outD (zs.take (k + 1))).map (Value.int .i64))) := by
          rw [HU.out, List.map_append]
          exact hown1
        clear hgrow hown1 hat hlt2
        go_roundw
        case rel => exact ⟨k + 1, _, by omega, by go_num, rfl, HO2, hE2⟩
        case measure => simp [intOf]; omega
      · have hkn : k = n := by omega
        subst hkn
        have e := hO.out
        rw [U3.out] at e
        have HE := Lib.hid e
        have HL : Hid ((outD zs).length = 2 * k) := by
          rw [← U3.out]
          exact U2.out k (Nat.le_refl _)
        clear e
        go_wp2
        go_ret
        refine ⟨_, rfl, ?_, hE.out⟩
        unfold Own
        rw [HL.out]
        exact HE.out
end Go.Proofs.YtpnfombolnaldaaGreatDoor
