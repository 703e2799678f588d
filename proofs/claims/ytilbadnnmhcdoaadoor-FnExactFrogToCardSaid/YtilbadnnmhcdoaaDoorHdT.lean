/-
  No statement is proved here: how a law looks at the marks of a list of texts; condition: at most 2097152 texts.
-/
import Derived.Test.YtilbadnnmhcdoaaDoorMkT
import Derived.Test.YtilbadnnmhcdoaaDoorEqT
import Derived.Deep.RegionWith
import Derived.Deep.RegionHeld3
namespace Go.Proofs.YtilbadnnmhcdoaaDoor
open Go.ChangeShapes Go.WideShapes Go.ChangeAt Go.RowKit

theorem withX {G C : Prop} (h : C) (k : C → G) : G := k h
theorem mtl_get (k n j : Nat) (hj : j < n) : (mtl k n).getD j ByteArray.empty = mtx (k + j) := by simp [mtl, List.getD, hj]

set_option maxRecDepth 100000 in
set_option maxHeartbeats 4000000 in
theorem heldStrs_any (v : Value) (n : Nat) (w : World) (k : Nat) (h : Strs w v (mtl k n)) (hn : n ≤ 2097152) (hk : 0 < k) (hk' : k ≤ 1000000) :
    Calls Tryd.prog 38 #[v, .int .i64 (k : Int)] w fun e w' => e = .returned (.int .i64 ((k : Int) + n)) ∧ Below w.heap.size w w' := by
  by_cases h0 : n = 0
  · subst h0
    obtain ⟨a, cap, rfl⟩ := Strs.nil h
    go_enter Tryd.func38, Tryd.ntmps38
    go_wp2
    go_rounds 1
    go_ret
    exact ⟨by simp, bdN _ 0⟩
  · obtain ⟨b, off, cap, rfl, hc⟩ := h.pos (by rw [mtl_length]; omega)
    have hbz : b < w.heap.size := World.block_lt_of_cell? w _ (hc 0 (by rw [mtl_length]; omega))
    rw [mtl_length] at *
    have H1 : Hid (∀ j, j < n → w.cell? ⟨b, off + j, none⟩ = some (.string (mtx (k + j)))) := fun j hj => by rw [hc j hj, mtl_get k n j hj]
    have HMK := Lib.hid fun j (hj : j < n) wx => markText_any (k + j) (by omega) (by omega) wx
    have HB0 := Lib.hid (Below.refl w.heap.size w)
    have HZ := Lib.hid hbz
    clear hc h hbz
    go_enter Tryd.func38, Tryd.ntmps38
    go_wp2
    go_loopw [1, 5] (fun kk i wr => ∃ j : Nat, j ≤ n ∧ i = .int .i64 j ∧ kk = .int .i64 ((k : Int) + j) ∧ Hid (Below w.heap.size w wr)) (fun _ i _ => n - (intOf i).toNat)
    case atStart => exact ⟨0, Nat.zero_le _, rfl, by go_num, HB0⟩
    case round =>
      obtain ⟨j, hj, rfl, rfl, hB⟩ := hrel
      by_cases hlt : j < n
      · have c1 : wr.cell? ⟨b, off + j, none⟩ = some (.string (mtx (k + j))) := (hB.out.cell (p := ⟨b, off + j, none⟩) HZ.out).trans (H1.out j hlt)
        have HC := Lib.hid fun wx => HMK.out j hlt wx
        rw [show ((k + j : Nat) : Int) = (k : Int) + (j : Int) by omega] at HC
        have HZr := Lib.hid (Nat.lt_of_lt_of_le HZ.out hB.out.size)
        have hne : ((mtx (k + j)).toList != (mtx (k + j)).toList) = false := by simp
        generalize mtx (k + j) = x at *
        go_wp2_with fail
        go_region_with (go_at_call 66; refine (HC.out _).mono ?_; rintro e w3 ⟨rfl, hB3⟩; refine withX (hB3.cell (p := ⟨b, off + j, none⟩) HZr.out) ?_; intro c3; rw [show (wr.drew).cell? ⟨b, off + j, none⟩ = _ from c1] at c3)
        all_goals
          go_wp2
          go_roundw
          case rel => exact ⟨j + 1, by omega, by go_num, by go_num, Lib.hid (hB.out.trans ((Below.drew (Below.refl _ _)).trans (hB3.mono (by simp)) |>.mono hB.out.size))⟩
          case measure => simp [intOf]; omega
      · have hkn : j = n := by omega
        subst hkn
        go_wp2
        go_ret
        exact ⟨rfl, hB.out⟩
end Go.Proofs.YtilbadnnmhcdoaaDoor
