/-
  No statement is proved here: a row from so many loops to so many, in the program; condition: from 1 to 60 loops.
-/
import Derived.Test.YtfohacleojimeaaDoorShpM
import Derived.Test.YtfohacleojimeaaDoorWithin
namespace Go.Proofs.YtfohacleojimeaaDoor
open Go.ChangeShapes Go.WideShapes Go.ChangeAt Go.RowKit

set_option maxRecDepth 100000 in
set_option maxHeartbeats 4000000 in
theorem implShape_any (f t : Int) (hf1 : 1 ≤ f) (hf2 : f ≤ 60) (ht1 : 1 ≤ t) (ht2 : t ≤ 60) (w : World) :
    Calls Tryd.prog 16 #[.int .i64 f, .int .i64 t] w fun e w' => e = .returned (.tuple #[.string (rowF f t).1, .int .i64 (rowF f t).2]) ∧ Below w.heap.size w w' := by
  by_cases hft : f < t
  · by_cases hb2 : 2 * f < t
    · rw [rowF_no (.inr hb2)]
      have h1 : f < t - f := by omega
      go_enter Tryd.func16, Tryd.ntmps16
      go_wp2
      go_ret2
      exact ⟨rfl, Below.refl _ _⟩
    · rw [rowF_yes (by omega)]
      have e1 : lessOf f t = f := if_pos hft
      have e2 : moreOf f t = t - f := if_pos hft
      have e3 : letOf f t = 105 := if_pos hft
      rw [e1, e2, e3]
      as_aux_lemma =>
      clear e1 e2 e3
      have hm1 : 0 ≤ (t - f) := by omega
      have hm2 : (t - f) ≤ 60 := by omega
      have hm3 : (t - f) ≤ f := by omega
      obtain ⟨N, rfl⟩ : ∃ N : Nat, f = (N : Int) := ⟨f.toNat, by omega⟩
      have hN1 : 1 ≤ N := by omega
      have hN2 : N ≤ 60 := by omega
      rw [show ((N : Int)).toNat = N from rfl]
      obtain ⟨R, hmk, hmo⟩ := make_bytes N (by omega)
      obtain ⟨zs, hz⟩ : ∃ zs, zs = shL (N : Int) (t - (N : Int)) 105 N := ⟨_, rfl⟩
      have hzl : zs.length = N := by rw [hz, shL_len]
      have HG := Lib.hid fun k (hk : k < N) => (show zs.getD k 0 = shB (N : Int) (t - (N : Int)) 105 k by rw [hz]; exact shL_get _ _ _ hk)
      rw [← hz]
      have HY := Lib.hid fun k => shB_yes (n := (N : Int)) (m := (t - (N : Int))) (c := 105) (k := k)
      have HNo := Lib.hid fun k => shB_no (n := (N : Int)) (m := (t - (N : Int))) (c := 105) (k := k)
      have HMu := Lib.hid fun (k : Nat) (hk : (k : Int) < (N : Int)) => mul_bd (n := (N : Int)) (k := k) (by omega) (by omega) hm1 hm2 hk
      have HDi := Lib.hid fun (a : Int) h0 h1 => div_bd (n := (N : Int)) (a := a) (by omega) h0 h1
      have HL := Lib.hid hzl
      have HFS := Lib.hid fun k x (hk : k < N) => fillB_step2 zs k x (by omega)
      have HFS1 := Lib.hid fun k (hk : k < N) => fillB_step zs k (by omega)
      have HFL := Lib.hid fun k (hk : k ≤ N) => fillB_length zs k (by omega)
      have HFA := Lib.hid (fillB_all zs)
      have O0 : Hid (OwnB (w.alloc (.cells R 5)) w.heap.size (.slice (some ⟨w.heap.size, 0, none⟩) N N) (fillB zs 0)) := Lib.hid (by rw [fillB_zero, hzl]; exact hmo w)
      have B0 := Lib.hid ((Below.refl w.heap.size w).alloc (Nat.le_refl _) (.cells R 5))
      obtain ⟨F, hF⟩ : ∃ F, F = shB (N : Int) (t - (N : Int)) 105 := ⟨_, rfl⟩
      rw [← hF] at HG HY HNo
      have z1 : (N : Int) ≠ 0 := by omega
      have z2 : ((N : Int) == 0) = false := by rw [beq_eq_false_iff_ne]; omega
      clear hz hF hzl hmo hb2
      go_enter Tryd.func16, Tryd.ntmps16
      go_wp2_with fail
      go_loopw [28] (fun i wr => ∃ k : Nat, i = .int .i64 k ∧ k ≤ N ∧ Hid (OwnB wr w.heap.size (.slice (some ⟨w.heap.size, 0, none⟩) N N) (fillB zs k)) ∧ Hid (Below w.heap.size w wr)) (fun i _ => 61 - (intOf i).toNat)
      case atStart => exact ⟨0, rfl, Nat.zero_le _, O0, B0⟩
      case round =>
        clear O0 B0
        obtain ⟨k, rfl, hk, hO, hB⟩ := hrel
        by_cases hlt : (k : Int) < (N : Int)
        · obtain ⟨⟨p1, p2⟩, p3, p4⟩ := HMu.out k hlt
          obtain ⟨d1, d2⟩ := HDi.out _ p1 p2
          obtain ⟨d3, d4⟩ := HDi.out _ p3 p4
          have HYk := Lib.hid (HY.out k)
          have HNk := Lib.hid (HNo.out k)
          have hkN : k < N := by omega
          have HGk := Lib.hid (HG.out k hkN)
          have HFk := Lib.hid fun x => HFS.out k x hkN
          have HFk1 := Lib.hid (HFS1.out k hkN)
          have HFl := Lib.hid (HFL.out k hk)
          have HFl1 := Lib.hid (HFL.out (k + 1) hkN)
          have u1 : ∀ [Inhabited Nat], IntKind.i64.wrap ((k : Int) * (t - (N : Int))) = (k : Int) * (t - (N : Int)) := by intro _; exact (IntWalk.i64_in _ (by omega)).trans (by omega)
          have u2 : ∀ [Inhabited Nat], wrap64 ((k : Int) * (t - (N : Int))) = (k : Int) * (t - (N : Int)) := by intro _; exact (IntWalk.wrap64_in _ (by omega)).trans (by omega)
          have u3 : ∀ [Inhabited Nat], IntKind.i64.wrap (((k : Int) + 1) * (t - (N : Int))) = ((k : Int) + 1) * (t - (N : Int)) := by intro _; exact (IntWalk.i64_in _ (by omega)).trans (by omega)
          have u4 : ∀ [Inhabited Nat], wrap64 (((k : Int) + 1) * (t - (N : Int))) = ((k : Int) + 1) * (t - (N : Int)) := by intro _; exact (IntWalk.wrap64_in _ (by omega)).trans (by omega)
          have u5 : ∀ [Inhabited Nat], IntKind.i64.wrap (((k : Int) * (t - (N : Int))).tdiv (N : Int)) = ((k : Int) * (t - (N : Int))).tdiv (N : Int) := by intro _; exact (IntWalk.i64_in _ (by omega)).trans (by omega)
          have u6 : ∀ [Inhabited Nat], IntKind.i64.wrap ((((k : Int) + 1) * (t - (N : Int))).tdiv (N : Int)) = (((k : Int) + 1) * (t - (N : Int))).tdiv (N : Int) := by intro _; exact (IntWalk.i64_in _ (by omega)).trans (by omega)
          have u7 : ∀ [Inhabited Nat], wrap64 (((k : Int) * (t - (N : Int))).tdiv (N : Int)) = ((k : Int) * (t - (N : Int))).tdiv (N : Int) := by intro _; exact (IntWalk.wrap64_in _ (by omega)).trans (by omega)
          have u8 : ∀ [Inhabited Nat], wrap64 ((((k : Int) + 1) * (t - (N : Int))).tdiv (N : Int)) = (((k : Int) + 1) * (t - (N : Int))).tdiv (N : Int) := by intro _; exact (IntWalk.wrap64_in _ (by omega)).trans (by omega)
          have hln : (fillB zs k).length = N := HFl.out.trans HL.out
          have hR : wr.ownsRow w.heap.size 5 1 (.slice (some ⟨w.heap.size, 0, none⟩) N N) N ((fillB zs k).map (Value.int .u8)) := by
            have := hO.out.row
            rwa [hln] at this
          have c0 : wr.cell? ⟨w.heap.size, k, none⟩ = some (.int .u8 ((fillB zs k).getD k 0)) := (hR.cellAt k (by omega)).trans (cellB (by omega))
          have f0 : wr.frozen? ⟨w.heap.size, k, none⟩ = false := hR.frozenAt k
          have S1 := Lib.hid (hR.stored k (Value.int .u8 107)).1
          have T1 := Lib.hid (hB.out.setCell (p := ⟨w.heap.size, k, none⟩) (by simp) (Value.int .u8 107))
          obtain ⟨W1, hW1⟩ : ∃ W1, W1 = wr.setCell ⟨w.heap.size, k, none⟩ (Value.int .u8 107) := ⟨_, rfl⟩
          rw [← hW1] at S1 T1
          have c1 : ∀ nq, (W1.drewN nq).cell? ⟨w.heap.size, k, none⟩ = some (.int .u8 107) := fun nq => by
            show W1.cell? ⟨w.heap.size, k, none⟩ = _
            rw [(S1.out.cellAt k (by omega)), List.getElem?_set_self (by simp; omega)]
          have f1 : ∀ nq, (W1.drewN nq).frozen? ⟨w.heap.size, k, none⟩ = false := fun nq => S1.out.frozenAt k
          have HW1 := Lib.hid hW1
          clear hW1 hR hO hB
          by_cases hq : ((k : Int) * (t - (N : Int))).tdiv (N : Int) < (((k : Int) + 1) * (t - (N : Int))).tdiv (N : Int)
          · have HE := Lib.hid (HYk.out hq)
            clear HYk HNk
            go_wp2_with fail
            rw [← HW1.out]
            go_quiet (fail)
            go_wp2
            go_roundw
            case rel =>
              refine ⟨k + 1, by go_num, hkN, ?_, Lib.hid ((T1.out.trans ((bdN W1 nq).mono T1.out.size)).setCell (p := ⟨w.heap.size, k, none⟩) (by simp) _)⟩
              have h := (World.ownsRow.stored (show (W1.drewN nq).ownsRow w.heap.size 5 1 (.slice (some ⟨w.heap.size, 0, none⟩) N N) N _ from S1.out) k (Value.int .u8 105)).1
              have e := HFk.out 107
              rw [HGk.out, HE.out] at e
              rw [← List.map_set, ← List.map_set, e] at h
              refine Lib.hid ?_
              unfold OwnB
              rw [HFl1.out, HL.out]
              exact h
            case measure => simp [intOf]; omega
          · have HE := Lib.hid (HNk.out (by omega))
            clear HYk HNk
            go_wp2_with fail
            rw [← HW1.out]
            go_quiet (fail)
            go_wp2
            go_roundw
            case rel =>
              refine ⟨k + 1, by go_num, hkN, ?_, Lib.hid (T1.out.trans ((bdN W1 nq).mono T1.out.size))⟩
              have h := (show (W1.drewN nq).ownsRow w.heap.size 5 1 (.slice (some ⟨w.heap.size, 0, none⟩) N N) N _ from S1.out)
              have e := HFk1.out
              rw [HGk.out, HE.out] at e
              rw [← List.map_set, e] at h
              refine Lib.hid ?_
              unfold OwnB
              rw [HFl1.out, HL.out]
              exact h
            case measure => simp [intOf]; omega
        · obtain rfl : k = N := by omega
          have hcv := text_of hO.out
          have e := HFA.out
          rw [HL.out] at e
          rw [e] at hcv
          go_wp2
          go_ret2
          exact ⟨rfl, hB.out⟩
  · by_cases hb2 : 2 * t < f
    · rw [rowF_no (.inl hb2)]
      have h1 : t < f - t := by omega
      go_enter Tryd.func16, Tryd.ntmps16
      go_wp2
      go_ret2
      exact ⟨rfl, Below.refl _ _⟩
    · rw [rowF_yes (by omega)]
      have e1 : lessOf f t = t := if_neg hft
      have e2 : moreOf f t = f - t := if_neg hft
      have e3 : letOf f t = 100 := if_neg hft
      rw [e1, e2, e3]
      as_aux_lemma =>
      clear e1 e2 e3
      have hm1 : 0 ≤ (f - t) := by omega
      have hm2 : (f - t) ≤ 60 := by omega
      have hm3 : (f - t) ≤ t := by omega
      obtain ⟨N, rfl⟩ : ∃ N : Nat, t = (N : Int) := ⟨t.toNat, by omega⟩
      have hN1 : 1 ≤ N := by omega
      have hN2 : N ≤ 60 := by omega
      rw [show ((N : Int)).toNat = N from rfl]
      obtain ⟨R, hmk, hmo⟩ := make_bytes N (by omega)
      obtain ⟨zs, hz⟩ : ∃ zs, zs = shL (N : Int) (f - (N : Int)) 100 N := ⟨_, rfl⟩
      have hzl : zs.length = N := by rw [hz, shL_len]
      have HG := Lib.hid fun k (hk : k < N) => (show zs.getD k 0 = shB (N : Int) (f - (N : Int)) 100 k by rw [hz]; exact shL_get _ _ _ hk)
      rw [← hz]
      have HY := Lib.hid fun k => shB_yes (n := (N : Int)) (m := (f - (N : Int))) (c := 100) (k := k)
      have HNo := Lib.hid fun k => shB_no (n := (N : Int)) (m := (f - (N : Int))) (c := 100) (k := k)
      have HMu := Lib.hid fun (k : Nat) (hk : (k : Int) < (N : Int)) => mul_bd (n := (N : Int)) (k := k) (by omega) (by omega) hm1 hm2 hk
      have HDi := Lib.hid fun (a : Int) h0 h1 => div_bd (n := (N : Int)) (a := a) (by omega) h0 h1
      have HL := Lib.hid hzl
      have HFS := Lib.hid fun k x (hk : k < N) => fillB_step2 zs k x (by omega)
      have HFS1 := Lib.hid fun k (hk : k < N) => fillB_step zs k (by omega)
      have HFL := Lib.hid fun k (hk : k ≤ N) => fillB_length zs k (by omega)
      have HFA := Lib.hid (fillB_all zs)
      have O0 : Hid (OwnB (w.alloc (.cells R 5)) w.heap.size (.slice (some ⟨w.heap.size, 0, none⟩) N N) (fillB zs 0)) := Lib.hid (by rw [fillB_zero, hzl]; exact hmo w)
      have B0 := Lib.hid ((Below.refl w.heap.size w).alloc (Nat.le_refl _) (.cells R 5))
      obtain ⟨F, hF⟩ : ∃ F, F = shB (N : Int) (f - (N : Int)) 100 := ⟨_, rfl⟩
      rw [← hF] at HG HY HNo
      have z1 : (N : Int) ≠ 0 := by omega
      have z2 : ((N : Int) == 0) = false := by rw [beq_eq_false_iff_ne]; omega
      clear hz hF hzl hmo hb2 hft
      go_enter Tryd.func16, Tryd.ntmps16
      go_wp2_with fail
      go_loopw [28] (fun i wr => ∃ k : Nat, i = .int .i64 k ∧ k ≤ N ∧ Hid (OwnB wr w.heap.size (.slice (some ⟨w.heap.size, 0, none⟩) N N) (fillB zs k)) ∧ Hid (Below w.heap.size w wr)) (fun i _ => 61 - (intOf i).toNat)
      case atStart => exact ⟨0, rfl, Nat.zero_le _, O0, B0⟩
      case round =>
        clear O0 B0
        obtain ⟨k, rfl, hk, hO, hB⟩ := hrel
        by_cases hlt : (k : Int) < (N : Int)
        · obtain ⟨⟨p1, p2⟩, p3, p4⟩ := HMu.out k hlt
          obtain ⟨d1, d2⟩ := HDi.out _ p1 p2
          obtain ⟨d3, d4⟩ := HDi.out _ p3 p4
          have HYk := Lib.hid (HY.out k)
          have HNk := Lib.hid (HNo.out k)
          have hkN : k < N := by omega
          have HGk := Lib.hid (HG.out k hkN)
          have HFk := Lib.hid fun x => HFS.out k x hkN
          have HFk1 := Lib.hid (HFS1.out k hkN)
          have HFl := Lib.hid (HFL.out k hk)
          have HFl1 := Lib.hid (HFL.out (k + 1) hkN)
          have u1 : ∀ [Inhabited Nat], IntKind.i64.wrap ((k : Int) * (f - (N : Int))) = (k : Int) * (f - (N : Int)) := by intro _; exact (IntWalk.i64_in _ (by omega)).trans (by omega)
          have u2 : ∀ [Inhabited Nat], wrap64 ((k : Int) * (f - (N : Int))) = (k : Int) * (f - (N : Int)) := by intro _; exact (IntWalk.wrap64_in _ (by omega)).trans (by omega)
          have u3 : ∀ [Inhabited Nat], IntKind.i64.wrap (((k : Int) + 1) * (f - (N : Int))) = ((k : Int) + 1) * (f - (N : Int)) := by intro _; exact (IntWalk.i64_in _ (by omega)).trans (by omega)
          have u4 : ∀ [Inhabited Nat], wrap64 (((k : Int) + 1) * (f - (N : Int))) = ((k : Int) + 1) * (f - (N : Int)) := by intro _; exact (IntWalk.wrap64_in _ (by omega)).trans (by omega)
          have u5 : ∀ [Inhabited Nat], IntKind.i64.wrap (((k : Int) * (f - (N : Int))).tdiv (N : Int)) = ((k : Int) * (f - (N : Int))).tdiv (N : Int) := by intro _; exact (IntWalk.i64_in _ (by omega)).trans (by omega)
          have u6 : ∀ [Inhabited Nat], IntKind.i64.wrap ((((k : Int) + 1) * (f - (N : Int))).tdiv (N : Int)) = (((k : Int) + 1) * (f - (N : Int))).tdiv (N : Int) := by intro _; exact (IntWalk.i64_in _ (by omega)).trans (by omega)
          have u7 : ∀ [Inhabited Nat], wrap64 (((k : Int) * (f - (N : Int))).tdiv (N : Int)) = ((k : Int) * (f - (N : Int))).tdiv (N : Int) := by intro _; exact (IntWalk.wrap64_in _ (by omega)).trans (by omega)
          have u8 : ∀ [Inhabited Nat], wrap64 ((((k : Int) + 1) * (f - (N : Int))).tdiv (N : Int)) = (((k : Int) + 1) * (f - (N : Int))).tdiv (N : Int) := by intro _; exact (IntWalk.wrap64_in _ (by omega)).trans (by omega)
          have hln : (fillB zs k).length = N := HFl.out.trans HL.out
          have hR : wr.ownsRow w.heap.size 5 1 (.slice (some ⟨w.heap.size, 0, none⟩) N N) N ((fillB zs k).map (Value.int .u8)) := by
            have := hO.out.row
            rwa [hln] at this
          have c0 : wr.cell? ⟨w.heap.size, k, none⟩ = some (.int .u8 ((fillB zs k).getD k 0)) := (hR.cellAt k (by omega)).trans (cellB (by omega))
          have f0 : wr.frozen? ⟨w.heap.size, k, none⟩ = false := hR.frozenAt k
          have S1 := Lib.hid (hR.stored k (Value.int .u8 107)).1
          have T1 := Lib.hid (hB.out.setCell (p := ⟨w.heap.size, k, none⟩) (by simp) (Value.int .u8 107))
          obtain ⟨W1, hW1⟩ : ∃ W1, W1 = wr.setCell ⟨w.heap.size, k, none⟩ (Value.int .u8 107) := ⟨_, rfl⟩
          rw [← hW1] at S1 T1
          have c1 : ∀ nq, (W1.drewN nq).cell? ⟨w.heap.size, k, none⟩ = some (.int .u8 107) := fun nq => by
            show W1.cell? ⟨w.heap.size, k, none⟩ = _
            rw [(S1.out.cellAt k (by omega)), List.getElem?_set_self (by simp; omega)]
          have f1 : ∀ nq, (W1.drewN nq).frozen? ⟨w.heap.size, k, none⟩ = false := fun nq => S1.out.frozenAt k
          have HW1 := Lib.hid hW1
          clear hW1 hR hO hB
          by_cases hq : ((k : Int) * (f - (N : Int))).tdiv (N : Int) < (((k : Int) + 1) * (f - (N : Int))).tdiv (N : Int)
          · have HE := Lib.hid (HYk.out hq)
            clear HYk HNk
            go_wp2_with fail
            rw [← HW1.out]
            go_quiet (fail)
            go_wp2
            go_roundw
            case rel =>
              refine ⟨k + 1, by go_num, hkN, ?_, Lib.hid ((T1.out.trans ((bdN W1 nq).mono T1.out.size)).setCell (p := ⟨w.heap.size, k, none⟩) (by simp) _)⟩
              have h := (World.ownsRow.stored (show (W1.drewN nq).ownsRow w.heap.size 5 1 (.slice (some ⟨w.heap.size, 0, none⟩) N N) N _ from S1.out) k (Value.int .u8 100)).1
              have e := HFk.out 107
              rw [HGk.out, HE.out] at e
              rw [← List.map_set, ← List.map_set, e] at h
              refine Lib.hid ?_
              unfold OwnB
              rw [HFl1.out, HL.out]
              exact h
            case measure => simp [intOf]; omega
          · have HE := Lib.hid (HNk.out (by omega))
            clear HYk HNk
            go_wp2_with fail
            rw [← HW1.out]
            go_quiet (fail)
            go_wp2
            go_roundw
            case rel =>
              refine ⟨k + 1, by go_num, hkN, ?_, Lib.hid (T1.out.trans ((bdN W1 nq).mono T1.out.size))⟩
              have h := (show (W1.drewN nq).ownsRow w.heap.size 5 1 (.slice (some ⟨w.heap.size, 0, none⟩) N N) N _ from S1.out)
              have e := HFk1.out
              rw [HGk.out, HE.out] at e
              rw [← List.map_set, e] at h
              refine Lib.hid ?_
              unfold OwnB
              rw [HFl1.out, HL.out]
              exact h
            case measure => simp [intOf]; omega
        · obtain rfl : k = N := by omega
          have hcv := text_of hO.out
          have e := HFA.out
          rw [HL.out] at e
          rw [e] at hcv
          go_wp2
          go_ret2
          exact ⟨rfl, hB.out⟩
end Go.Proofs.YtfohacleojimeaaDoor
