/-
  No statement is proved here: how uneven a web is, as the program takes it; condition: at most 1048576 stripes.
-/
import Derived.Test.YtpnfombolnaldaaGreatDoorUneven
namespace Go.Proofs.YtpnfombolnaldaaGreatDoor
open Go.ChangeShapes Go.WideShapes Go.ChangeAt Go.RowKit

set_option maxRecDepth 100000 in
set_option maxHeartbeats 2000000 in
theorem implUn_any (v : Value) (zs : List Int) (w : World) (h : Ints w v zs) (hn : zs.length ≤ 1048576) :
    Calls Tryz.prog 27 #[v] w fun e w' => e = .returned (.tuple #[.agg #[.int .i64 (unF zs).1, .int .i64 (unF zs).2.1], .int .i64 (unF zs).2.2]) ∧ Below w.heap.size w w' := by
  have hin := fun wx hx => valid_any v zs wx hx hn
  have hI := Lib.hid fun (o : Obj) => h.below ((Below.refl w.heap.size w).alloc (Nat.le_refl _) o)
  cases hok : okW zs with
  | false =>
    rw [hok] at hin
    have HI := Lib.hid hin
    rw [show unF zs = (0, 0, 1) by simp [unF, hok]]
    clear hin hok h
    go_enter Tryz.func27, Tryz.ntmps27
    go_wp2_with fail
    refine (HI.out _ (hI.out _)).mono ?_
    rintro e w' ⟨rfl, rfl⟩
    go_wp2
    go_returns
    exact ⟨rfl, by go_grown⟩
  | true =>
    rw [hok] at hin
    have HI := Lib.hid hin
    have hu := upTo_mono (okW_up hok) (show (10000 : Int) ≤ 1000000 by omega)
    have HT := Lib.hid fun wx hx => sumOf_any v zs wx hx hn hu
    have hs := sum_bd_all hu
    have hl := okW_len hok
    by_cases hs0 : zs.sum = 0
    · rw [show unF zs = (0, 0, 6) by simp [unF, hok, hs0]]
      rw [hs0] at HT
      obtain ⟨a9, c9, rfl⟩ := h.len
      clear hin hok h hu hs hs0
      go_enter Tryz.func27, Tryz.ntmps27
      go_wp2_with fail
      refine (HI.out _ (hI.out _)).mono ?_
      rintro e w' ⟨rfl, rfl⟩
      go_wp2_with fail
      refine (HT.out _ (hI.out _)).mono ?_
      rintro e w' ⟨rfl, rfl⟩
      go_wp2
      go_returns
      exact ⟨rfl, by go_grown⟩
    · rw [show unF zs = (lowN (offTo zs zs.length) ((zs.length : Int) * zs.sum), lowD (offTo zs zs.length) ((zs.length : Int) * zs.sum), 0) by simp [unF, hok, hs0]]
      have U1 := Lib.hid (offTo_step zs)
      have U2 := Lib.hid (offTo_bd hok)
      have U3 := Lib.hid (fun k hk => okW_get hok k hk)
      have hbw0 := h.blk (by omega)
      obtain ⟨b1, o1, c1, rfl, hc1⟩ := h.pos (by omega)
      have hbw : b1 < w.heap.size := hbw0 b1 o1 none _ _ rfl
      clear h hu hok hin hbw0
      obtain ⟨n, hln⟩ : ∃ n, n = zs.length := ⟨_, rfl⟩
      rw [← hln] at U1 U2 U3 HI HT hI hc1 hn hl hs ⊢
      have HC := Lib.hid hc1
      clear hc1 hln
      obtain ⟨S, hS⟩ : ∃ S, S = zs.sum := ⟨_, rfl⟩
      rw [← hS] at U1 HT hs hs0 ⊢
      clear hS
      have hsb : (S == 0) = false := by simp [hs0]
      have hm2 := mulbd2 (s := S) (n := (n : Int)) (by omega) (by omega) (by omega) (by omega)
      have hpos : 0 < (n : Int) * S := Int.mul_pos (by omega) (by omega)
      go_enter Tryz.func27, Tryz.ntmps27
      go_wp2_with fail
      refine (HI.out _ (hI.out _)).mono ?_
      rintro e w' ⟨rfl, rfl⟩
      go_wp2_with fail
      refine (HT.out _ (hI.out _)).mono ?_
      rintro e w' ⟨rfl, rfl⟩
      go_wp2_with fail
      go_loop [6, 22] (fun s i => ∃ (k : Nat) (q : Int), k ≤ n ∧ i = .int .i64 k ∧ s = .int .i64 q ∧ Hid (q = offTo zs k)) (fun _ i => n - (intOf i).toNat)
      case atStart => exact ⟨0, 0, Nat.zero_le _, rfl, rfl, by rfl⟩
      case round =>
        obtain ⟨k, q, hk, rfl, rfl, hq⟩ := hrel
        by_cases hlt : k < n
        · have c1 : w.cell? ⟨b1, o1 + k, none⟩ = some (.int .i64 (zs.getD k 0)) := HC.out k hlt
          have u2 := U2.out k hk
          have u3 := U3.out k hlt
          have HS := Lib.hid (U1.out k hlt)
          rw [← hq.out] at HS u2
          obtain ⟨z, hz⟩ : ∃ z, z = zs.getD k 0 := ⟨_, rfl⟩
          rw [← hz] at c1 u3 HS
          clear hz hq
          have hm := mulbd u3.1 u3.2 (show (0 : Int) ≤ (n : Int) by omega) (by omega)
          rw [Int.mul_comm] at hm HS
          go_wp2_with fail
          refine (size_any _ _ (by omega) (by omega)).mono ?_
          rintro e w' ⟨rfl, rfl⟩
          go_wp2_with fail
          go_round
          case rel => exact ⟨k + 1, q + (((n : Int) * z - S).natAbs : Int), by omega, by go_num, by go_num, HS.out.symm⟩
          case measure => simp [intOf]; omega
        · have hkn : k = n := by omega
          subst hkn
          have u2 := U2.out k hk
          rw [← hq.out] at u2
          go_wp2_with fail
          refine (reduced_any _ _ _ (by omega) (by omega) (by omega) (by omega) (by omega)).mono ?_
          rintro e w3 ⟨rfl, hB⟩
          obtain ⟨hc, hf⟩ := cellsKept hB w.heap.size (by simp)
          have hB2 : Below w.heap.size w w3 := ((Below.refl _ _).alloc (Nat.le_refl _) _).trans (hB.mono (by simp))
          have HQ := Lib.hid hq.out
          have f0 : w3.cell? ⟨w.heap.size, 0, none⟩ = some (.int .i64 0) := (hc 0).trans (by simp [go_sem])
          have f1 : w3.cell? ⟨w.heap.size, 1, none⟩ = some (.int .i64 0) := (hc 1).trans (by simp [go_sem])
          have g0 : w3.frozen? ⟨w.heap.size, 0, none⟩ = false := (hf 0).trans (by simp [go_sem])
          have g1 : w3.frozen? ⟨w.heap.size, 1, none⟩ = false := (hf 1).trans (by simp [go_sem])
          have t0 : (w3.setCell ⟨w.heap.size, 0, none⟩ (.int .i64 (lowN q ((k : Int) * S)))).cell? ⟨w.heap.size, 0, none⟩ = some (.int .i64 (lowN q ((k : Int) * S))) := by simp [go_sem, f0]
          have t1 : ((w3.setCell ⟨w.heap.size, 0, none⟩ (.int .i64 (lowN q ((k : Int) * S)))).setCell ⟨w.heap.size, 1, none⟩ (.int .i64 (lowD q ((k : Int) * S)))).cell? ⟨w.heap.size, 1, none⟩ = some (.int .i64 (lowD q ((k : Int) * S))) := by simp [go_sem, f1]
          clear hB hc hf hq
          go_wp2_with fail
          refine bodyPost_ret (v := .tuple #[.agg #[.int .i64 (lowN q ((k : Int) * S)), .int .i64 (lowD q ((k : Int) * S))], .int .i64 0]) (by simp [results, go_sem, t0, t1, Tryz.f27]) rfl ?_
          refine ⟨?_, by go_grown⟩
          rw [HQ.out]
end Go.Proofs.YtpnfombolnaldaaGreatDoor
