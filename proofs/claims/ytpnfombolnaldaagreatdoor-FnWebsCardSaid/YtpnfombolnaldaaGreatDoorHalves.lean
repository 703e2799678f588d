/-
  No statement is proved here: a web cut in halves, and the halves laid on each other, as the program does it; condition: an even number of stripes, at least 2 and at most 1048576.
-/
import Derived.Test.YtpnfombolnaldaaGreatDoorFold
namespace Go.Proofs.YtpnfombolnaldaaGreatDoor
open Go.ChangeShapes Go.WideShapes Go.ChangeAt Go.RowKit

set_option maxRecDepth 100000 in
set_option maxHeartbeats 1000000 in
theorem halves_any (b1 o1 c1 n h : Nat) (w : World) (hn : n = 2 * h) (h0 : 0 < h) (h1 : h ≤ 1000000) (hc : n ≤ c1) (hcm : c1 ≤ maxLen) :
    Calls Tryz.prog 79 #[.slice (some ⟨b1, o1, none⟩) n c1] w fun e w' => e = .returned (.tuple #[.slice (some ⟨b1, o1, none⟩) h h, .slice (some ⟨b1, o1 + h, none⟩) h (c1 - h)]) ∧ ∃ nd, w.drewN nd = w' := by
  unfold maxLen at hcm
  have e1 : (n : Int) / 2 = (h : Int) := by omega
  have e2 : ((n / 2 : Nat) : Int) = (h : Int) := by omega
  have e3 : ((n : Int) - (h : Int)) = (h : Int) := by omega
  have HN := Lib.hid hn
  have hle : (h : Int) ≤ (n : Int) := by omega
  have hle2 : (n : Int) ≤ (c1 : Int) := by omega
  clear hn
  go_enter Tryz.func79, Tryz.ntmps79
  have hm1 : (h : Int) ≤ (c1 : Int) := by omega
  have hh0 : (0 : Int) ≤ (h : Int) := by omega
  go_wp2_with fail
  go_region
  all_goals
    go_wp2_with fail
    go_returns
    have e4 : n - h = h := by
      have := HN.out
      omega
    refine ⟨?_, 1, rfl⟩
    show Ending.returned (.tuple #[.slice (some ⟨b1, o1, none⟩) h h, .slice (some ⟨b1, o1 + h, none⟩) (n - h) (c1 - h)]) = _
    rw [e4]

theorem halves0_any (b1 c1 n h : Nat) (w : World) (hn : n = 2 * h) (h0 : 0 < h) (h1 : h ≤ 1000000) (hc : n ≤ c1) (hcm : c1 ≤ maxLen) :
    Calls Tryz.prog 79 #[.slice (some ⟨b1, 0, none⟩) n c1] w fun e w' => e = .returned (.tuple #[.slice (some ⟨b1, 0, none⟩) h h, .slice (some ⟨b1, h, none⟩) h (c1 - h)]) ∧ ∃ nd, w.drewN nd = w' :=
  (halves_any b1 0 c1 n h w hn h0 h1 hc hcm).mono fun e w' ⟨he, hw⟩ => ⟨by rw [he, Nat.zero_add], hw⟩

theorem Own.cap {w : World} {base : Nat} {v : Value} {zs : List Int} (h : Own w base v zs) (h0 : 0 < zs.length) :
    ∃ g cap, v = .slice (some ⟨g, 0, none⟩) zs.length cap ∧ base ≤ g ∧ g < w.heap.size ∧ zs.length ≤ cap ∧ cap ≤ maxLen ∧ (∀ j, j < zs.length → w.cell? ⟨g, j, none⟩ = some (.int .i64 (zs.getD j 0))) := by
  have hr := h.row
  rcases h.block with ⟨rfl, _⟩ | ⟨g, cap, rfl, hb, hg, _, hc, _⟩
  · simp at h0
  · refine ⟨g, cap, rfl, hb, hg, ?_, ?_, hc⟩
    · rcases hr.2 with ⟨h', _⟩ | ⟨g', cap', cur, h', _, _, h3, h4, _⟩
      · simp at h'
      · simp only [Value.slice.injEq] at h'
        omega
    · rcases hr.2 with ⟨h', _⟩ | ⟨g', cap', cur, h', _, _, h3, h4, _⟩
      · simp at h'
      · simp only [Value.slice.injEq] at h'
        omega

theorem getD_take (zs : List Int) (h j : Nat) (hj : j < h) : (zs.take h).getD j 0 = zs.getD j 0 := by simp [List.getD, hj]
theorem getD_drop (zs : List Int) (h j : Nat) : (zs.drop h).getD j 0 = zs.getD (h + j) 0 := by simp [List.getD, List.getElem?_drop]
theorem getD_rev (zs : List Int) (j : Nat) (hj : j < zs.length) : zs.reverse.getD j 0 = zs.getD (zs.length - 1 - j) 0 := by simp [List.getD, List.getElem?_reverse hj]

theorem fold_eq (zs : List Int) (h : Nat) (hn : zs.length = 2 * h) (h0 : 0 < h) : onTo (zs.take h) (zs.drop h).reverse h = dblTo zs true h := by
  have l1 : (zs.take h).length = h := by rw [List.length_take]; omega
  have l2 : (zs.drop h).length = h := by rw [List.length_drop]; omega
  refine ext_getD (by rw [onTo_length, l1, dblTo_length]) fun j hj => ?_
  rw [onTo_length, l1] at hj
  rw [onTo_get _ _ _ _ (by omega), if_pos hj, dblTo_get _ _ _ _ hj, getD_take _ _ _ hj, getD_rev _ _ (by omega), getD_drop, l2]
  congr 2
  show h + (h - 1 - j) = zs.length - 1 - j
  omega
theorem cross_eq (zs : List Int) (h : Nat) (hn : zs.length = 2 * h) : onTo (zs.take h) (zs.drop h) h = dblTo zs false h := by
  have l1 : (zs.take h).length = h := by rw [List.length_take]; omega
  refine ext_getD (by rw [onTo_length, l1, dblTo_length]) fun j hj => ?_
  rw [onTo_length, l1] at hj
  rw [onTo_get _ _ _ _ (by omega), if_pos hj, dblTo_get _ _ _ _ hj, getD_take _ _ _ hj, getD_drop]
  congr 2
  show h + j = j + zs.length / 2
  omega

set_option maxRecDepth 100000 in
set_option maxHeartbeats 1000000 in
theorem folded_any (v : Value) (zs : List Int) (base : Nat) (w : World) (ho : Own w base v zs) (hok : okW zs = true) :
    Calls Tryz.prog 51 #[v] w fun e w' => ∃ r, e = .returned r ∧ Own w' w.heap.size r (dblTo zs true (zs.length / 2)) ∧ Below w.heap.size w w' := by
  have hl := okW_len hok
  obtain ⟨h, hh⟩ : ∃ h, h = zs.length / 2 := ⟨_, rfl⟩
  obtain ⟨g, cap, rfl, hbg, hg, hc1, hc2, hcell⟩ := ho.cap (by omega)
  have l1 : (zs.take h).length = h := by rw [List.length_take]; omega
  have l2 : (zs.drop h).length = h := by rw [List.length_drop]; omega
  have hgt := okW_get hok
  have IL : Hid (Ints w (.slice (some ⟨g, 0, none⟩) h h) (zs.take h)) := .inr ⟨g, 0, h, by rw [l1], by omega, hg, fun j hj => by rw [l1] at hj; rw [Nat.zero_add, getD_take _ _ _ hj]; exact hcell j (by omega)⟩
  have IR : Hid (Ints w (.slice (some ⟨g, h, none⟩) h (cap - h)) (zs.drop h)) := .inr ⟨g, h, cap - h, by rw [l2], by omega, hg, fun j hj => by rw [l2] at hj; rw [getD_drop]; exact hcell (h + j) (by omega)⟩
  have HH := Lib.hid (halves0_any g cap zs.length h w (by omega) (by omega) (by omega) hc1 hc2)
  have HE := Lib.hid (fold_eq zs h (by omega) (by omega))
  rw [← hh]
  have L1 := Lib.hid l1
  have L2 := Lib.hid l2
  have hp : 0 < h := by omega
  have hb2 : h ≤ 1048576 := by omega
  have B1 : Hid (∀ j, j < (zs.take h).length → 0 ≤ (zs.take h).getD j 0 ∧ (zs.take h).getD j 0 ≤ 10000) := fun j hj => by
    rw [l1] at hj
    rw [getD_take _ _ _ hj]
    exact hgt j (by omega)
  have B2 : Hid (∀ j, j < (zs.take h).length → 0 ≤ (zs.drop h).reverse.getD j 0 ∧ (zs.drop h).reverse.getD j 0 ≤ 10000) := fun j hj => by
    rw [l1] at hj
    rw [getD_rev _ _ (by omega), getD_drop, l2]
    exact hgt _ (by omega)
  clear hh hl ho hc1 hc2 hcell l1 l2 hgt hok hbg hg
  go_enter Tryz.func51, Tryz.ntmps51
  go_wp2_with fail
  refine HH.out.mono ?_
  rintro e w' ⟨rfl, nd, rfl⟩
  go_wp2_with fail
  refine (mirrored_any _ (zs.drop h) _ (IR.out.below (bdN w nd)) (by rw [L2.out]; exact hb2) (by rw [L2.out]; exact hp)).mono ?_
  rintro e w1 ⟨r1, rfl, own1, hB1⟩
  have OR := Lib.hid own1
  have T1 := Lib.hid ((bdN w nd).trans hB1)
  clear own1 hB1
  go_wp2_with fail
  refine (with_any _ r1 (zs.take h) (zs.drop h).reverse w1 (IL.out.below T1.out) OR.out.ints (by rw [List.length_reverse, L1.out, L2.out]) (by rw [L1.out]; exact hb2) (by rw [L1.out]; exact hp) B1.out B2.out).mono ?_
  rintro e w2 ⟨r2, rfl, own2, hB2⟩
  have T2 := Lib.hid (T1.out.trans (hB2.mono T1.out.size))
  have O2 := Lib.hid own2
  clear own2 hB2
  go_wp2_with fail
  go_ret
  refine ⟨_, rfl, ?_, T2.out⟩
  have h2 := O2.out.mono T1.out.size
  rw [L1.out, HE.out] at h2
  exact h2

set_option maxRecDepth 100000 in
set_option maxHeartbeats 1000000 in
theorem crossed_any (v : Value) (zs : List Int) (base : Nat) (w : World) (ho : Own w base v zs) (hok : okW zs = true) :
    Calls Tryz.prog 53 #[v] w fun e w' => ∃ r, e = .returned r ∧ Own w' w.heap.size r (dblTo zs false (zs.length / 2)) ∧ Below w.heap.size w w' := by
  have hl := okW_len hok
  obtain ⟨h, hh⟩ : ∃ h, h = zs.length / 2 := ⟨_, rfl⟩
  obtain ⟨g, cap, rfl, hbg, hg, hc1, hc2, hcell⟩ := ho.cap (by omega)
  have l1 : (zs.take h).length = h := by rw [List.length_take]; omega
  have l2 : (zs.drop h).length = h := by rw [List.length_drop]; omega
  have hgt := okW_get hok
  have IL : Hid (Ints w (.slice (some ⟨g, 0, none⟩) h h) (zs.take h)) := .inr ⟨g, 0, h, by rw [l1], by omega, hg, fun j hj => by rw [l1] at hj; rw [Nat.zero_add, getD_take _ _ _ hj]; exact hcell j (by omega)⟩
  have IR : Hid (Ints w (.slice (some ⟨g, h, none⟩) h (cap - h)) (zs.drop h)) := .inr ⟨g, h, cap - h, by rw [l2], by omega, hg, fun j hj => by rw [l2] at hj; rw [getD_drop]; exact hcell (h + j) (by omega)⟩
  have HH := Lib.hid (halves0_any g cap zs.length h w (by omega) (by omega) (by omega) hc1 hc2)
  have HE := Lib.hid (cross_eq zs h (by omega))
  rw [← hh]
  have L1 := Lib.hid l1
  have L2 := Lib.hid l2
  have hp : 0 < h := by omega
  have hb2 : h ≤ 1048576 := by omega
  have B1 : Hid (∀ j, j < (zs.take h).length → 0 ≤ (zs.take h).getD j 0 ∧ (zs.take h).getD j 0 ≤ 10000) := fun j hj => by
    rw [l1] at hj
    rw [getD_take _ _ _ hj]
    exact hgt j (by omega)
  have B2 : Hid (∀ j, j < (zs.take h).length → 0 ≤ (zs.drop h).getD j 0 ∧ (zs.drop h).getD j 0 ≤ 10000) := fun j hj => by
    rw [l1] at hj
    rw [getD_drop]
    exact hgt _ (by omega)
  clear hh hl ho hc1 hc2 hcell l1 l2 hgt hok hbg hg
  go_enter Tryz.func53, Tryz.ntmps53
  go_wp2_with fail
  refine HH.out.mono ?_
  rintro e w' ⟨rfl, nd, rfl⟩
  go_wp2_with fail
  refine (with_any _ _ (zs.take h) (zs.drop h) _ (IL.out.below (bdN w nd)) (IR.out.below (bdN w nd)) (by rw [L1.out, L2.out]) (by rw [L1.out]; exact hb2) (by rw [L1.out]; exact hp) B1.out B2.out).mono ?_
  rintro e w2 ⟨r2, rfl, own2, hB2⟩
  have T2 := Lib.hid ((bdN w nd).trans hB2)
  have O2 := Lib.hid own2
  clear own2 hB2
  go_wp2_with fail
  go_ret
  refine ⟨_, rfl, ?_, T2.out⟩
  have h2 := O2.out
  rw [L1.out, HE.out] at h2
  exact h2
end Go.Proofs.YtpnfombolnaldaaGreatDoor
