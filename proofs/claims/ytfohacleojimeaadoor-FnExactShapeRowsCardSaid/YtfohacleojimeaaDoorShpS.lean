/-
  No statement is proved here: a row from so many loops to so many, in the document's own text; condition: from 1 to 60 loops.
-/
import Derived.Test.YtfohacleojimeaaDoorShpM
import Derived.Test.YtfohacleojimeaaDoorSize
import Derived.Deep.AppendLies
namespace Go.Proofs.YtfohacleojimeaaDoor
open Go.ChangeShapes Go.WideShapes Go.ChangeAt Go.RowKit

theorem minS_any (a b : Int) (w : World) :
    Calls Tryd.prog 19 #[.int .i64 a, .int .i64 b] w fun e w' => e = .returned (.int .i64 (min a b)) ∧ w = w' := by
  by_cases h0 : a < b
  · go_enter Tryd.func19, Tryd.ntmps19
    go_wp2
    go_ret
    exact ⟨ret_int (by omega), rfl⟩
  · go_enter Tryd.func19, Tryd.ntmps19
    go_wp2
    go_ret
    exact ⟨ret_int (by omega), rfl⟩
theorem min_less (f t : Int) : min f t = lessOf f t := by unfold lessOf; split <;> omega
theorem size_more (f t : Int) : ((f - t).natAbs : Int) = moreOf f t := by unfold moreOf; split <;> omega
theorem castS_any (n : Int) (w : World) :
    Calls Tryd.prog 12 #[.int .i64 n] w fun e w' => e = .returned (.bool (inB n 1 60)) ∧ w = w' := by
  have H := Lib.hid (in_any n 1 60 w)
  go_enter Tryd.func12, Tryd.ntmps12
  go_wp2_with fail
  refine H.out.mono ?_
  rintro e w' ⟨rfl, rfl⟩
  go_wp2
  go_ret
  exact ⟨rfl, rfl⟩
theorem one_byteS (a : Int) : ∀ u ∈ [Value.int .u8 a], u.oneCell' = true := by intro u hu; simp at hu; subst hu; rfl
theorem grown_allocS {w w' : World} {o : Obj} {row : Option Nat} (h : (w.alloc o).grownBy w' row) : w.grownBy w' row :=
  ⟨h.os, h.tape, h.output, Nat.le_trans (by simp) h.size, fun i hi hne => (h.block i (by simp; omega) hne).trans (Below.heap_alloc w o i hi)⟩

set_option maxRecDepth 100000 in
set_option maxHeartbeats 4000000 in
/-- The loop's answer, for a letter that is known. -/
theorem specShape_any (f t : Int) (hf1 : 1 ≤ f) (hf2 : f ≤ 60) (ht1 : 1 ≤ t) (ht2 : t ≤ 60) (w : World) :
    Calls Tryd.prog 13 #[.int .i64 f, .int .i64 t] w fun e w' => e = .returned (.tuple #[.string (rowF f t).1, .bool (decide ((rowF f t).2 = 0))]) ∧ Below w.heap.size w w' := by
  by_cases hb1 : 2 * t < f
  · rw [rowF_no (.inl hb1)]
    go_enter Tryd.func13, Tryd.ntmps13
    go_wp2
    go_ret2
    exact ⟨rfl, Below.refl _ _⟩
  · by_cases hb2 : 2 * f < t
    · rw [rowF_no (.inr hb2)]
      go_enter Tryd.func13, Tryd.ntmps13
      go_wp2
      go_ret2
      exact ⟨rfl, Below.refl _ _⟩
    · rw [rowF_yes (by omega)]
      obtain ⟨i0, hi, hz0, hz1, hz2⟩ := info_parts infoU8
      have HMn := Lib.hid fun wx => minS_any f t wx
      rw [min_less] at HMn
      have HMo := Lib.hid fun wx => l01Size_any (f - t) wx (by omega) (by omega)
      rw [size_more] at HMo
      have hl : (f < t ∧ letOf f t = 105) ∨ (t ≤ f ∧ letOf f t = 100) := by unfold letOf; split <;> omega
      have hn1 : 1 ≤ lessOf f t := by unfold lessOf; split <;> omega
      have hn2 : lessOf f t ≤ 60 := by unfold lessOf; split <;> omega
      have hm1 : 0 ≤ moreOf f t := by unfold moreOf; split <;> omega
      have hm2 : moreOf f t ≤ 60 := by unfold moreOf; split <;> omega
      obtain ⟨n, hn⟩ : ∃ n, n = lessOf f t := ⟨_, rfl⟩
      obtain ⟨m, hm⟩ : ∃ m, m = moreOf f t := ⟨_, rfl⟩
      obtain ⟨c, hc⟩ : ∃ c, c = letOf f t := ⟨_, rfl⟩
      rw [← hn] at HMn hn1 hn2 ⊢
      rw [← hm] at HMo hm1 hm2 ⊢
      rw [← hc] at hl ⊢
      clear hn hm hc
      obtain ⟨N, rfl⟩ : ∃ N : Nat, n = (N : Int) := ⟨n.toNat, by omega⟩
      have hN1 : 1 ≤ N := by omega
      have hN2 : N ≤ 60 := by omega
      rw [show ((N : Int)).toNat = N from rfl]
      have HSu := Lib.hid fun k => shL_succ (N : Int) m c k
      have HLe := Lib.hid fun k => shL_len (N : Int) m c k
      have HY := Lib.hid fun k => shB_yes (n := (N : Int)) (m := m) (c := c) (k := k)
      have HNo := Lib.hid fun k => shB_no (n := (N : Int)) (m := m) (c := c) (k := k)
      have HMu := Lib.hid fun (k : Nat) (hk : (k : Int) < (N : Int)) => mul_bd (k := k) hn1 hn2 hm1 hm2 hk
      have HDi := Lib.hid fun (a : Int) h0 h1 => div_bd (a := a) hn1 h0 h1
      have z1 : (N : Int) ≠ 0 := by omega
      have z2 : ((N : Int) == 0) = false := by rw [beq_eq_false_iff_ne]; omega
      have HB0 := Lib.hid (show OwnB (w.alloc (.cells #[] 5)) w.heap.size (.slice (some ⟨w.heap.size, 0, none⟩) 0 0) (shL (N : Int) m c 0) from World.ownsRow_made (size := 1) (e := 5) w #[] 0 (Nat.le_refl _) (by decide) rfl)
      have HBel := Lib.hid ((Below.refl w.heap.size w).alloc (Nat.le_refl _) (.cells #[] 5))
      have HZ0 := Lib.hid (show w.heap.size ≤ (w.alloc (.cells #[] 5)).heap.size by simp)
      obtain ⟨L, hL⟩ : ∃ L, L = shL (N : Int) m c := ⟨_, rfl⟩
      rw [← hL] at HSu HLe HB0 ⊢
      obtain ⟨F, hF⟩ : ∃ F, F = shB (N : Int) m c := ⟨_, rfl⟩
      rw [← hF] at HSu HY HNo
      clear hL hF
      rcases hl with ⟨hft, rfl⟩ | ⟨hft, rfl⟩
      · as_aux_lemma =>
        have hb1' : f ≤ 2 * t := by omega
        have hb2' : t ≤ 2 * f := by omega
        clear hb1 hb2
        go_enter Tryd.func13, Tryd.ntmps13
        go_wp2_with fail
        refine (HMn.out _).mono ?_
        rintro e w1 ⟨rfl, rfl⟩
        go_wp2_with fail
        refine (HMo.out _).mono ?_
        rintro e w1 ⟨rfl, rfl⟩
        go_wp2_with fail
        go_loopw [9, 10] (fun v i wr => ∃ (k : Nat) (u : Value), i = .int .i64 k ∧ u = v ∧ k ≤ N ∧ Hid (OwnB wr w.heap.size v (L k)) ∧ Hid (Below w.heap.size w wr) ∧ Hid (w.heap.size ≤ wr.heap.size)) (fun _ i _ => 61 - (intOf i).toNat)
        case atStart => exact ⟨0, _, rfl, rfl, Nat.zero_le _, HB0, HBel, HZ0⟩
        case round =>
          clear HB0 HBel HZ0
          obtain ⟨k, v, rfl, rfl, hk, hO, hBe, hZ⟩ := hrel
          by_cases hlt : (k : Int) < (N : Int)
          · obtain ⟨⟨p1, p2⟩, p3, p4⟩ := HMu.out k hlt
            obtain ⟨d1, d2⟩ := HDi.out _ p1 p2
            obtain ⟨d3, d4⟩ := HDi.out _ p3 p4
            have HYk := Lib.hid (HY.out k)
            have HNk := Lib.hid (HNo.out k)
            have HSk := Lib.hid (HSu.out k)
            have HLk := Lib.hid (HLe.out k)
            have hk1 : k + 1 ≤ N := by omega
            have u1 : ∀ [Inhabited Nat], IntKind.i64.wrap ((k : Int) * m) = (k : Int) * m := by intro _; exact (IntWalk.i64_in _ (by omega)).trans (by omega)
            have u2 : ∀ [Inhabited Nat], wrap64 ((k : Int) * m) = (k : Int) * m := by intro _; exact (IntWalk.wrap64_in _ (by omega)).trans (by omega)
            have u3 : ∀ [Inhabited Nat], IntKind.i64.wrap (((k : Int) + 1) * m) = ((k : Int) + 1) * m := by intro _; exact (IntWalk.i64_in _ (by omega)).trans (by omega)
            have u4 : ∀ [Inhabited Nat], wrap64 (((k : Int) + 1) * m) = ((k : Int) + 1) * m := by intro _; exact (IntWalk.wrap64_in _ (by omega)).trans (by omega)
            have u5 : ∀ [Inhabited Nat], IntKind.i64.wrap (((k : Int) * m).tdiv (N : Int)) = ((k : Int) * m).tdiv (N : Int) := by intro _; exact (IntWalk.i64_in _ (by omega)).trans (by omega)
            have u6 : ∀ [Inhabited Nat], IntKind.i64.wrap ((((k : Int) + 1) * m).tdiv (N : Int)) = (((k : Int) + 1) * m).tdiv (N : Int) := by intro _; exact (IntWalk.i64_in _ (by omega)).trans (by omega)
            have u7 : ∀ [Inhabited Nat], wrap64 (((k : Int) * m).tdiv (N : Int)) = ((k : Int) * m).tdiv (N : Int) := by intro _; exact (IntWalk.wrap64_in _ (by omega)).trans (by omega)
            have u8 : ∀ [Inhabited Nat], wrap64 ((((k : Int) + 1) * m).tdiv (N : Int)) = (((k : Int) + 1) * m).tdiv (N : Int) := by intro _; exact (IntWalk.wrap64_in _ (by omega)).trans (by omega)
            have HLs := Lib.hid (HLe.out (k + 1))
            have hO3 : Hid (∀ n, (wr.drewN n).ownsRow w.heap.size 5 1 v k ((L k).map (Value.int .u8))) := Lib.hid (fun n => by
              have := (hO.out.below (bdN wr n)).row
              rwa [HLk.out] at this)
            by_cases hq : ((k : Int) * m).tdiv (N : Int) < (((k : Int) + 1) * m).tdiv (N : Int)
            · have HE := Lib.hid (HYk.out hq)
              clear HYk HNk
              go_wp2_with fail
              go_quiet (fail)
              go_wp2_with (first
                | (at_builtin; refine wpList_append_lies _ rfl _ _ _ rfl w.heap.size 5 i0 (.int .u8 0) 1 1 Tryd.underlying43 hi hz0 hz1 hz2 rfl (by omega) v k _ rfl ((hO3.out _).alloc _) ⟨wr.heap.size, 0, none⟩ 1 1 [.int .u8 105] rfl rfl (World.news_of_block (heap_alloc_new (wr.drewN nq) _)) (one_byteS _) (by omega) (by unfold maxLen; omega) (by omega) (by have := hZ.out; simp; omega) (wr.heap.size + 1) (by simp) ?_; intro gg cap w3 hown3 hgrow hat hlt2)
                | fail)
              have hE3 := Lib.hid ((hBe.out.trans ((bdN wr nq).mono hBe.out.size)).grown (grown_allocS hgrow) (by simpa using hZ.out) (fun k hk => ((hO3.out nq).lt k hk).1))
              have hZ3 := Lib.hid (Nat.le_trans (show w.heap.size ≤ (wr.drewN nq).heap.size by simpa using hZ.out) (grown_allocS hgrow).size)
              have HO3 : Hid (OwnB w3 w.heap.size (.slice (some ⟨gg, 0, none⟩) (k + 1) cap) (L (k + 1))) := by
                unfold OwnB
                rw [HLs.out, HSk.out, HE.out, List.map_append]
                exact hown3
              clear hgrow hown3 hat hlt2
              go_wp2
              go_roundw
              case rel => exact ⟨k + 1, _, by go_num, rfl, hk1, HO3, hE3, hZ3⟩
              case measure => simp [intOf]; omega
            · have HE := Lib.hid (HNk.out (by omega))
              clear HYk HNk
              go_wp2_with fail
              go_quiet (fail)
              go_wp2_with (first
                | (at_builtin; refine wpList_append_lies _ rfl _ _ _ rfl w.heap.size 5 i0 (.int .u8 0) 1 1 Tryd.underlying43 hi hz0 hz1 hz2 rfl (by omega) v k _ rfl ((hO3.out _).alloc _) ⟨wr.heap.size, 0, none⟩ 1 1 [.int .u8 107] rfl rfl (World.news_of_block (heap_alloc_new (wr.drewN nq) _)) (one_byteS _) (by omega) (by unfold maxLen; omega) (by omega) (by have := hZ.out; simp; omega) (wr.heap.size + 1) (by simp) ?_; intro gg cap w3 hown3 hgrow hat hlt2)
                | fail)
              have hE3 := Lib.hid ((hBe.out.trans ((bdN wr nq).mono hBe.out.size)).grown (grown_allocS hgrow) (by simpa using hZ.out) (fun k hk => ((hO3.out nq).lt k hk).1))
              have hZ3 := Lib.hid (Nat.le_trans (show w.heap.size ≤ (wr.drewN nq).heap.size by simpa using hZ.out) (grown_allocS hgrow).size)
              have HO3 : Hid (OwnB w3 w.heap.size (.slice (some ⟨gg, 0, none⟩) (k + 1) cap) (L (k + 1))) := by
                unfold OwnB
                rw [HLs.out, HSk.out, HE.out, List.map_append]
                exact hown3
              clear hgrow hown3 hat hlt2
              go_wp2
              go_roundw
              case rel => exact ⟨k + 1, _, by go_num, rfl, hk1, HO3, hE3, hZ3⟩
              case measure => simp [intOf]; omega
          · obtain rfl : k = N := by omega
            have hcv := text_of hO.out
            go_wp2
            go_ret2
            exact ⟨rfl, hBe.out⟩
      · as_aux_lemma =>
        have hb1' : f ≤ 2 * t := by omega
        have hb2' : t ≤ 2 * f := by omega
        clear hb1 hb2
        go_enter Tryd.func13, Tryd.ntmps13
        go_wp2_with fail
        refine (HMn.out _).mono ?_
        rintro e w1 ⟨rfl, rfl⟩
        go_wp2_with fail
        refine (HMo.out _).mono ?_
        rintro e w1 ⟨rfl, rfl⟩
        go_wp2_with fail
        go_loopw [9, 10] (fun v i wr => ∃ (k : Nat) (u : Value), i = .int .i64 k ∧ u = v ∧ k ≤ N ∧ Hid (OwnB wr w.heap.size v (L k)) ∧ Hid (Below w.heap.size w wr) ∧ Hid (w.heap.size ≤ wr.heap.size)) (fun _ i _ => 61 - (intOf i).toNat)
        case atStart => exact ⟨0, _, rfl, rfl, Nat.zero_le _, HB0, HBel, HZ0⟩
        case round =>
          clear HB0 HBel HZ0
          obtain ⟨k, v, rfl, rfl, hk, hO, hBe, hZ⟩ := hrel
          by_cases hlt : (k : Int) < (N : Int)
          · obtain ⟨⟨p1, p2⟩, p3, p4⟩ := HMu.out k hlt
            obtain ⟨d1, d2⟩ := HDi.out _ p1 p2
            obtain ⟨d3, d4⟩ := HDi.out _ p3 p4
            have HYk := Lib.hid (HY.out k)
            have HNk := Lib.hid (HNo.out k)
            have HSk := Lib.hid (HSu.out k)
            have HLk := Lib.hid (HLe.out k)
            have hk1 : k + 1 ≤ N := by omega
            have u1 : ∀ [Inhabited Nat], IntKind.i64.wrap ((k : Int) * m) = (k : Int) * m := by intro _; exact (IntWalk.i64_in _ (by omega)).trans (by omega)
            have u2 : ∀ [Inhabited Nat], wrap64 ((k : Int) * m) = (k : Int) * m := by intro _; exact (IntWalk.wrap64_in _ (by omega)).trans (by omega)
            have u3 : ∀ [Inhabited Nat], IntKind.i64.wrap (((k : Int) + 1) * m) = ((k : Int) + 1) * m := by intro _; exact (IntWalk.i64_in _ (by omega)).trans (by omega)
            have u4 : ∀ [Inhabited Nat], wrap64 (((k : Int) + 1) * m) = ((k : Int) + 1) * m := by intro _; exact (IntWalk.wrap64_in _ (by omega)).trans (by omega)
            have u5 : ∀ [Inhabited Nat], IntKind.i64.wrap (((k : Int) * m).tdiv (N : Int)) = ((k : Int) * m).tdiv (N : Int) := by intro _; exact (IntWalk.i64_in _ (by omega)).trans (by omega)
            have u6 : ∀ [Inhabited Nat], IntKind.i64.wrap ((((k : Int) + 1) * m).tdiv (N : Int)) = (((k : Int) + 1) * m).tdiv (N : Int) := by intro _; exact (IntWalk.i64_in _ (by omega)).trans (by omega)
            have u7 : ∀ [Inhabited Nat], wrap64 (((k : Int) * m).tdiv (N : Int)) = ((k : Int) * m).tdiv (N : Int) := by intro _; exact (IntWalk.wrap64_in _ (by omega)).trans (by omega)
            have u8 : ∀ [Inhabited Nat], wrap64 ((((k : Int) + 1) * m).tdiv (N : Int)) = (((k : Int) + 1) * m).tdiv (N : Int) := by intro _; exact (IntWalk.wrap64_in _ (by omega)).trans (by omega)
            have HLs := Lib.hid (HLe.out (k + 1))
            have hO3 : Hid (∀ n, (wr.drewN n).ownsRow w.heap.size 5 1 v k ((L k).map (Value.int .u8))) := Lib.hid (fun n => by
              have := (hO.out.below (bdN wr n)).row
              rwa [HLk.out] at this)
            by_cases hq : ((k : Int) * m).tdiv (N : Int) < (((k : Int) + 1) * m).tdiv (N : Int)
            · have HE := Lib.hid (HYk.out hq)
              clear HYk HNk
              go_wp2_with fail
              go_quiet (fail)
              go_wp2_with (first
                | (at_builtin; refine wpList_append_lies _ rfl _ _ _ rfl w.heap.size 5 i0 (.int .u8 0) 1 1 Tryd.underlying43 hi hz0 hz1 hz2 rfl (by omega) v k _ rfl ((hO3.out _).alloc _) ⟨wr.heap.size, 0, none⟩ 1 1 [.int .u8 100] rfl rfl (World.news_of_block (heap_alloc_new (wr.drewN nq) _)) (one_byteS _) (by omega) (by unfold maxLen; omega) (by omega) (by have := hZ.out; simp; omega) (wr.heap.size + 1) (by simp) ?_; intro gg cap w3 hown3 hgrow hat hlt2)
                | fail)
              have hE3 := Lib.hid ((hBe.out.trans ((bdN wr nq).mono hBe.out.size)).grown (grown_allocS hgrow) (by simpa using hZ.out) (fun k hk => ((hO3.out nq).lt k hk).1))
              have hZ3 := Lib.hid (Nat.le_trans (show w.heap.size ≤ (wr.drewN nq).heap.size by simpa using hZ.out) (grown_allocS hgrow).size)
              have HO3 : Hid (OwnB w3 w.heap.size (.slice (some ⟨gg, 0, none⟩) (k + 1) cap) (L (k + 1))) := by
                unfold OwnB
                rw [HLs.out, HSk.out, HE.out, List.map_append]
                exact hown3
              clear hgrow hown3 hat hlt2
              go_wp2
              go_roundw
              case rel => exact ⟨k + 1, _, by go_num, rfl, hk1, HO3, hE3, hZ3⟩
              case measure => simp [intOf]; omega
            · have HE := Lib.hid (HNk.out (by omega))
              clear HYk HNk
              go_wp2_with fail
              go_quiet (fail)
              go_wp2_with (first
                | (at_builtin; refine wpList_append_lies _ rfl _ _ _ rfl w.heap.size 5 i0 (.int .u8 0) 1 1 Tryd.underlying43 hi hz0 hz1 hz2 rfl (by omega) v k _ rfl ((hO3.out _).alloc _) ⟨wr.heap.size, 0, none⟩ 1 1 [.int .u8 107] rfl rfl (World.news_of_block (heap_alloc_new (wr.drewN nq) _)) (one_byteS _) (by omega) (by unfold maxLen; omega) (by omega) (by have := hZ.out; simp; omega) (wr.heap.size + 1) (by simp) ?_; intro gg cap w3 hown3 hgrow hat hlt2)
                | fail)
              have hE3 := Lib.hid ((hBe.out.trans ((bdN wr nq).mono hBe.out.size)).grown (grown_allocS hgrow) (by simpa using hZ.out) (fun k hk => ((hO3.out nq).lt k hk).1))
              have hZ3 := Lib.hid (Nat.le_trans (show w.heap.size ≤ (wr.drewN nq).heap.size by simpa using hZ.out) (grown_allocS hgrow).size)
              have HO3 : Hid (OwnB w3 w.heap.size (.slice (some ⟨gg, 0, none⟩) (k + 1) cap) (L (k + 1))) := by
                unfold OwnB
                rw [HLs.out, HSk.out, HE.out, List.map_append]
                exact hown3
              clear hgrow hown3 hat hlt2
              go_wp2
              go_roundw
              case rel => exact ⟨k + 1, _, by go_num, rfl, hk1, HO3, hE3, hZ3⟩
              case measure => simp [intOf]; omega
          · obtain rfl : k = N := by omega
            have hcv := text_of hO.out
            go_wp2
            go_ret2
            exact ⟨rfl, hBe.out⟩
end Go.Proofs.YtfohacleojimeaaDoor
