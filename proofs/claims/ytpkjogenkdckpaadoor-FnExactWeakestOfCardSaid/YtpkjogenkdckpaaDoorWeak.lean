/-
  No statement is proved here: the thinnest yarn, as the document's own text tells it; condition: at most 1048576 yarns.
-/
import Derived.Test.YtpkjogenkdckpaaDoorDown
import Derived.Test.YtpkjogenkdckpaaDoorYnFrac
namespace Go.Proofs.YtpkjogenkdckpaaDoor
open Go.ChangeShapes Go.WideShapes Go.ChangeAt Go.RowKit

/-- The thinnest of the first k yarns. -/
def weak (ys : List Yn) : Nat → Nat
  | 0 => 0
  | k + 1 => if (yat ys (weak ys k)).1 * (yat ys k).2.2 < (yat ys k).1 * (yat ys (weak ys k)).2.2 then k else weak ys k
theorem weak_step (ys : List Yn) (k : Nat) : weak ys (k + 1) = if (yat ys (weak ys k)).1 * (yat ys k).2.2 < (yat ys k).1 * (yat ys (weak ys k)).2.2 then k else weak ys k := rfl
theorem weak_one (ys : List Yn) : weak ys 1 = 0 := by rw [weak_step]; show (if (yat ys 0).1 * (yat ys 0).2.2 < (yat ys 0).1 * (yat ys 0).2.2 then 0 else 0) = 0; simp
theorem weak_lt (ys : List Yn) : ∀ k, weak ys k ≤ k ∧ (0 < k → weak ys k < k)
  | 0 => ⟨Nat.le_refl _, fun h => by omega⟩
  | k + 1 => by
    have ih := weak_lt ys k
    rw [weak_step]
    split <;> omega
/-- What WeakestOf answers. -/
def weakF (ys : List Yn) : Int × Int × Int × Int :=
  if askedF ys true = 0 then (if ys.length = 0 then (0, 0, 0, 6) else ((weak ys ys.length : Int), lowN (yat ys (weak ys ys.length)).1 (yat ys (weak ys ys.length)).2.2, lowD (yat ys (weak ys ys.length)).1 (yat ys (weak ys ys.length)).2.2, 0))
  else (0, 0, 0, askedF ys true)
theorem weakF_no {ys : List Yn} (h : ¬ askedF ys true = 0) : weakF ys = (0, 0, 0, askedF ys true) := by unfold weakF; rw [if_neg h]
theorem weakF_none {ys : List Yn} (h : askedF ys true = 0) (h0 : ys.length = 0) : weakF ys = (0, 0, 0, 6) := by unfold weakF; rw [if_pos h, if_pos h0]
theorem weakF_yes {ys : List Yn} (h : askedF ys true = 0) (h0 : ¬ ys.length = 0) : weakF ys = ((weak ys ys.length : Int), lowN (yat ys (weak ys ys.length)).1 (yat ys (weak ys ys.length)).2.2, lowD (yat ys (weak ys ys.length)).1 (yat ys (weak ys ys.length)).2.2, 0) := by unfold weakF; rw [if_pos h, if_neg h0]
theorem fbox_new (w : World) : FBox (w.alloc (.cells #[.int .i64 0, .int .i64 0] 47)) w.heap.size 0 0 := ⟨⟨by simp [go_sem], by simp [go_sem]⟩, by simp [go_sem], by simp [go_sem]⟩
/-- A product of two small numbers. -/
theorem prod_bd {a b : Int} (ha : 1 ≤ a ∧ a ≤ 5000) (hb : 1 ≤ b ∧ b ≤ 2000) : 1 ≤ a * b ∧ a * b ≤ 10000000 := by
  have x1 : a * b ≤ 5000 * b := Int.mul_le_mul_of_nonneg_right ha.2 (by omega)
  have x2 : 1 * b ≤ a * b := Int.mul_le_mul_of_nonneg_right ha.1 (by omega)
  omega
theorem y_bd {ys : List Yn} (h : allY ys = true) (k : Nat) (hk : k < ys.length) : (1 ≤ (yat ys k).1 ∧ (yat ys k).1 ≤ 5000) ∧ (1 ≤ (yat ys k).2.2 ∧ (yat ys k).2.2 ≤ 2000) :=
  ⟨(okY_of (allY_get h k hk)).1, (okY_of (allY_get h k hk)).2.2⟩

set_option maxRecDepth 100000 in
set_option maxHeartbeats 4000000 in
theorem specWeak_any (v : Value) (ys : List Yn) (w : World) (h : Yarns w v ys) (hn : ys.length ≤ 1048576) :
    Calls Tryd.prog 27 #[v] w fun e w' => e = .returned (.tuple #[.int .i64 (weakF ys).1, .agg #[.int .i64 (weakF ys).2.1, .int .i64 (weakF ys).2.2.1], .int .i64 (weakF ys).2.2.2]) ∧ Below w.heap.size w w' := by
  have H2 := Lib.hid fun wx hx => l03Asked_any v ys true wx hx hn
  have HY := Lib.hid h
  by_cases hc : askedF ys true = 0
  · by_cases h0 : ys.length = 0
    · rw [weakF_none hc h0]
      rw [hc] at H2
      clear hc
      have hx : ys = [] := List.length_eq_zero_iff.1 h0
      subst hx
      obtain ⟨a, cap, rfl⟩ := h.nil
      clear h
      go_enter Tryd.func27, Tryd.ntmps27
      go_wp2_with fail
      refine (H2.out _ (HY.out.below ((Below.refl _ _).alloc (Nat.le_refl _) _))).mono ?_
      rintro e w1 ⟨rfl, hB⟩
      have B1 := Lib.hid (((Below.refl w.heap.size w).alloc (Nat.le_refl _) _).trans (hB.mono (by simp)))
      have R1 := Lib.hid ((fbox_new w).below hB (by simp))
      clear hB
      have ht := fbox_set R1.out 0 0
      obtain ⟨⟨f0, f1⟩, g0, g1⟩ := R1.out
      go_wp2_with fail
      refine bodyPost_ret (v := .tuple #[.int .i64 0, .agg #[.int .i64 0, .int .i64 0], .int .i64 6]) (by simp [results, go_sem, ht.1, ht.2, Tryd.f27]) rfl ?_
      exact ⟨rfl, (B1.out.setCell (Nat.le_refl _) _).setCell (Nat.le_refl _) _⟩
    · rw [weakF_yes hc h0]
      have hall := (askedF_zero hc).1
      have hlen := (askedF_zero hc).2.2
      obtain ⟨b, off, cap, rfl, hb, hcells⟩ := h.pos (by omega)
      have H16 := Lib.hid h.1
      have HBD := Lib.hid (y_bd hall)
      have HST := Lib.hid (weak_step ys)
      have HLT := Lib.hid (weak_lt ys)
      have HONE := Lib.hid (weak_one ys)
      rw [hc] at H2
      obtain ⟨n, hln⟩ : ∃ n, n = ys.length := ⟨_, rfl⟩
      rw [← hln] at HBD hcells hn h0 hlen H2 HY ⊢
      obtain ⟨M, hM⟩ : ∃ M, M = weak ys n := ⟨_, rfl⟩
      have hMn : M < n := by rw [hM]; exact (HLT.out n).2 (by omega)
      rw [← hM]
      have HRR := Lib.hid fun wx => ratio_any (yat ys M).1 (yat ys M).2.2 wx (by have := HBD.out M hMn; omega) (by have := HBD.out M hMn; omega) (by have := HBD.out M hMn; omega) (by have := HBD.out M hMn; omega)
      generalize lowN (yat ys M).1 (yat ys M).2.2 = p at *
      generalize lowD (yat ys M).1 (yat ys M).2.2 = q' at *
      have HM := Lib.hid hM
      have EM := Lib.hid (HBD.out M hMn)
      clear hM
      have HC := Lib.hid hcells
      clear hcells hln h hc hall
      go_enter Tryd.func27, Tryd.ntmps27
      go_wp2_with fail
      refine (H2.out _ (HY.out.below ((Below.refl _ _).alloc (Nat.le_refl _) _))).mono ?_
      rintro e w1 ⟨rfl, hB⟩
      have B1 := Lib.hid (((Below.refl w.heap.size w).alloc (Nat.le_refl _) _).trans (hB.mono (by simp)))
      have R1 := Lib.hid ((fbox_new w).below hB (by simp))
      have Z1 := Lib.hid (show w.heap.size < w1.heap.size by have := hB.size; simp at this; omega)
      clear hB
      have hn2 : (n : Int) ≤ 10 := by omega
      go_wp2_with fail
      go_loopw [6, 7] (fun s i wr => ∃ k m : Nat, 1 ≤ k ∧ k ≤ n ∧ m < k ∧ i = .int .i64 k ∧ s = .int .i64 m ∧ Hid (m = weak ys k) ∧ Hid (∃ q, wr = w1.drewN q)) (fun _ i _ => n - (intOf i).toNat)
      case atStart => exact ⟨1, 0, Nat.le_refl _, by omega, by omega, rfl, rfl, Lib.hid HONE.out.symm, Lib.hid ⟨0, rfl⟩⟩
      case round =>
        obtain ⟨k, m, hk1, hk, hmk, rfl, rfl, hm, hq⟩ := hrel
        obtain ⟨q, hq'⟩ := hq.out
        subst hq'
        by_cases hlt : k < n
        · obtain ⟨p1, p2, p3⟩ := HC.out k hlt
          obtain ⟨r1, r2, r3⟩ := HC.out m (by omega)
          have e1 := HBD.out k hlt
          have e2 := HBD.out m (by omega)
          have hs := HST.out k
          rw [← hm.out] at hs
          have dd : ∀ o, w1.cell? ⟨b, o, none⟩ = w.cell? ⟨b, o, none⟩ := fun o => B1.out.cell (p := ⟨b, o, none⟩) hb
          rw [← dd] at p1 p2 p3 r1 r2 r3
          clear dd
          generalize (yat ys k).1 = y0 at *
          generalize (yat ys k).2.1 = y1 at *
          generalize (yat ys k).2.2 = y2 at *
          generalize (yat ys m).1 = z0 at *
          generalize (yat ys m).2.1 = z1 at *
          generalize (yat ys m).2.2 = z2 at *
          have f1 := prod_bd e1.1 e2.2
          have f2 := prod_bd e2.1 e1.2
          obtain ⟨⟨e11, e12⟩, e13, e14⟩ := e1
          obtain ⟨⟨e21, e22⟩, e23, e24⟩ := e2
          have u1 : ∀ [Inhabited Nat], IntKind.i64.wrap (y0 * z2) = y0 * z2 := by intro _; exact (IntWalk.i64_in _ (by omega)).trans (by omega)
          have u2 : ∀ [Inhabited Nat], wrap64 (y0 * z2) = y0 * z2 := by intro _; exact (IntWalk.wrap64_in _ (by omega)).trans (by omega)
          have u3 : ∀ [Inhabited Nat], IntKind.i64.wrap (z0 * y2) = z0 * y2 := by intro _; exact (IntWalk.i64_in _ (by omega)).trans (by omega)
          have u4 : ∀ [Inhabited Nat], wrap64 (z0 * y2) = z0 * y2 := by intro _; exact (IntWalk.wrap64_in _ (by omega)).trans (by omega)
          have hkn : (k : Int) < (n : Int) := by omega
          have hmn : (m : Int) < (n : Int) := by omega
          have hk0 : (0 : Int) ≤ (k : Int) := by omega
          have hm0 : (0 : Int) ≤ (m : Int) := by omega
          have HS := Lib.hid hs
          clear hs hm hq f1 f2
          by_cases hgt : z0 * y2 < y0 * z2
          · have HE := Lib.hid (show weak ys (k + 1) = k by rw [HS.out, if_pos hgt])
            have hgd : decide (z0 * y2 < y0 * z2) = true := decide_eq_true hgt
            clear hgt
            go_wp2_with fail
            go_quiet (fail)
            go_wp2
            go_roundw
            case rel => exact ⟨k + 1, k, by omega, by omega, by omega, by go_num, rfl, Lib.hid HE.out.symm, Lib.hid ⟨_, rfl⟩⟩
            case measure => simp [intOf]; omega
          · have HE := Lib.hid (show weak ys (k + 1) = m by rw [HS.out, if_neg hgt])
            have hgd : decide (z0 * y2 < y0 * z2) = false := decide_eq_false hgt
            clear hgt
            go_wp2_with fail
            go_quiet (fail)
            go_wp2
            go_roundw
            case rel => exact ⟨k + 1, m, by omega, by omega, by omega, by go_num, rfl, Lib.hid HE.out.symm, Lib.hid ⟨_, rfl⟩⟩
            case measure => simp [intOf]; omega
        · have hkn : k = n := by omega
          subst hkn
          obtain rfl : m = M := hm.out.trans HM.out.symm
          obtain ⟨r1, r2, r3⟩ := HC.out m (by omega)
          have dd : ∀ o, w1.cell? ⟨b, o, none⟩ = w.cell? ⟨b, o, none⟩ := fun o => B1.out.cell (p := ⟨b, o, none⟩) hb
          rw [← dd] at r1 r2 r3
          clear dd hm hq
          generalize (yat ys m).1 = z0 at *
          generalize (yat ys m).2.1 = z1 at *
          generalize (yat ys m).2.2 = z2 at *
          have hmn : (m : Int) < (k : Int) := by omega
          have hm0 : (0 : Int) ≤ (m : Int) := by omega
          have e2 := EM.out
          have v1 : ∀ [Inhabited Nat], IntKind.i64.wrap z0 = z0 := by intro _; exact (IntWalk.i64_in _ (by omega)).trans (by omega)
          have v2 : ∀ [Inhabited Nat], wrap64 z0 = z0 := by intro _; exact (IntWalk.wrap64_in _ (by omega)).trans (by omega)
          have v3 : ∀ [Inhabited Nat], IntKind.i64.wrap z2 = z2 := by intro _; exact (IntWalk.i64_in _ (by omega)).trans (by omega)
          have v4 : ∀ [Inhabited Nat], wrap64 z2 = z2 := by intro _; exact (IntWalk.wrap64_in _ (by omega)).trans (by omega)
          clear e2
          go_wp2_with fail
          go_region_with (first | (go_at_call 62; refine (HRR.out _).mono ?_; rintro e w' ⟨rfl, hB⟩; (have hF : FBox w' w.heap.size 0 0 := (by refine FBox.below ?_ hB ?_; exact R1.out; exact Z1.out)); obtain ⟨⟨f0, f1⟩, g0, g1⟩ := hF))
          all_goals
            have ht := fbox_set ⟨⟨f0, f1⟩, g0, g1⟩ p q'
            have B2 := Lib.hid ((below_drewN B1.out _).trans (hB.mono B1.out.size))
            go_wp2_with fail
            refine bodyPost_ret (v := .tuple #[.int .i64 m, .agg #[.int .i64 p, .int .i64 q'], .int .i64 0]) (by simp [results, go_sem, ht.1, ht.2, Tryd.f27]) rfl ?_
            exact ⟨rfl, (B2.out.setCell (Nat.le_refl _) _).setCell (Nat.le_refl _) _⟩
  · rw [weakF_no hc]
    generalize askedF ys true = c at *
    have hcb : (c != 0) = true := by simp [hc]
    have hcb2 : (c == 0) = false := by simp [hc]
    clear h
    go_enter Tryd.func27, Tryd.ntmps27
    go_wp2_with fail
    refine (H2.out _ (HY.out.below ((Below.refl _ _).alloc (Nat.le_refl _) _))).mono ?_
    rintro e w1 ⟨rfl, hB⟩
    have B1 := Lib.hid (((Below.refl w.heap.size w).alloc (Nat.le_refl _) _).trans (hB.mono (by simp)))
    have R1 := Lib.hid ((fbox_new w).below hB (by simp))
    clear hB
    have ht := fbox_set R1.out 0 0
    obtain ⟨⟨f0, f1⟩, g0, g1⟩ := R1.out
    go_wp2_with fail
    refine bodyPost_ret (v := .tuple #[.int .i64 0, .agg #[.int .i64 0, .int .i64 0], .int .i64 c]) (by simp [results, go_sem, ht.1, ht.2, Tryd.f27]) rfl ?_
    exact ⟨rfl, (B1.out.setCell (Nat.le_refl _) _).setCell (Nat.le_refl _) _⟩
end Go.Proofs.YtpkjogenkdckpaaDoor
