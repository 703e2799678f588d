/-
  No statement is proved here: l07Left of the document's own text; condition: lots and orders that are valid, at most 1048576 numbers of a plan.
-/
import Derived.Test.YtklgklkfolbjcaaLfM
import Derived.Laws.OwnMore
import Derived.Deep.AppendLies
namespace Go.Proofs.Ytklgklkfolbjcaa
open Go.ChangeShapes Go.WideShapes Go.ChangeAt Go.RowKit

theorem int_one1 (a : Int) : ∀ u ∈ [Value.int .i64 a], u.oneCell' = true := by intro u hu; simp at hu; subst hu; rfl
theorem grams_take {T : List Lt} {k : Nat} (hk : k < T.length) : grams (T.take (k + 1)) = grams (T.take k) ++ [(atLt T k).2] := by
  rw [takeLt' hk]
  simp [grams]
theorem below_of_own {B : Nat} {w w' : World} {v : Value} {zs : List Int} (h : Own w B v zs) (hg : w.grownBy w' v.ownBlock) (hB : B ≤ w.heap.size) : Below B w w' :=
  (Below.refl B w).grown hg hB (fun k hk => (h.lt k hk).1)
theorem grown_al {w w' : World} {o : Obj} {row : Option Nat} (h : (w.alloc o).grownBy w' row) : w.grownBy w' row := grown_tr (World.grownBy_alloc w o row) h
theorem ret_left {u : Value} {a b : Bool} (h : a = b) : Ending.returned (.tuple #[u, .bool a]) = .returned (.tuple #[u, .bool b]) := by rw [h]

set_option maxRecDepth 100000 in
set_option maxHeartbeats 16000000 in
theorem l07Left_any (va vo vp : Value) (T : List Lt) (os : List Od) (ps : List Int) (w : World) (ha : Lts w va T) (ho : Ods w vo os) (hp : Ints w vp ps) (hT : isLts T = true) (hO : isOds os = true) (hn : ps.length ≤ 1048576) :
    Calls Try.prog 49 #[va, vo, vp] w fun e w' => ∃ u R, e = .returned (.tuple #[u, .bool (leftT T os ps).isSome]) ∧ Own w' w.heap.size u R ∧ (∀ U, leftT T os ps = some U → R = grams U) ∧ Below w.heap.size w w' := by
  obtain ⟨i0, hi, hz0, hz1, hz2⟩ := info_parts info64
  obtain ⟨hT1, hT6⟩ := isLts_of hT
  obtain ⟨hO1, hO7⟩ := isOds_of hO
  have HKR := Lib.hid (kept_run (ps := ps) hT1 hO1)
  obtain ⟨aa, ca, rfl⟩ := ha.len
  obtain ⟨ao, co, rfl⟩ := ho.len
  obtain ⟨ap, cp, rfl⟩ := hp.len
  have HA := Lib.hid ha.at
  have HO := Lib.hid ho.at
  have HP := Lib.hid (ints_at hp)
  have HIT := Lib.hid ha.1
  have HIO := Lib.hid ho.1
  have HOO := Lib.hid (allOd_get hO1)
  have HTK := Lib.hid fun k (hk : k < T.length) => grams_take (T := T) hk
  have HT0 := Lib.hid (show grams (T.take T.length) = grams T by rw [List.take_length])
  have HRT := Lib.hid (show leftT T os ps = if ps.length = os.length then runT T os ps ps.length else none from rfl)
  have HGL := Lib.hid fun k (hk : k ≤ T.length) => (show (grams (T.take k)).length = k by rw [grams_length, List.length_take]; omega)
  clear ha ho hp hT1 hO1 hT hO
  obtain ⟨n, hln⟩ : ∃ n, n = T.length := ⟨_, rfl⟩
  obtain ⟨m, hlm⟩ : ∃ m, m = os.length := ⟨_, rfl⟩
  obtain ⟨l, hll⟩ : ∃ l, l = ps.length := ⟨_, rfl⟩
  rw [← hln] at HA HT0 HTK HGL hT6 ⊢
  rw [← hlm] at HO HOO HRT hO7 HKR ⊢
  rw [← hll] at HP HRT hn ⊢
  have HLN := Lib.hid hln
  have HLL := Lib.hid hll
  obtain ⟨B, hBe⟩ : ∃ B, B = w.heap.size := ⟨_, rfl⟩
  have HB := Lib.hid hBe
  rw [← hBe] at HA HO HP ⊢
  have O0 : Hid (Own (w.alloc (.cells #[] 2)) B (.slice (some ⟨w.heap.size, 0, none⟩) 0 0) (grams (T.take 0))) := Lib.hid (World.ownsRow_made w #[] 0 (by omega) (by decide) rfl)
  have B0 : Hid (Below B w (w.alloc (.cells #[] 2))) := (Below.refl _ _).alloc (by omega) _
  clear hln hlm hll hBe
  generalize leftT T os ps = LT at *
  go_enter Try.func49, Try.ntmps49
  go_wp2_with fail
  generalize w.alloc (.cells #[] 2) = w1 at *
  go_loopw [8, 9] (fun u i wr => ∃ (k : Nat) (x : Value), k ≤ n ∧ i = .int .i64 k ∧ x = u ∧ Hid (Own wr B x (grams (T.take k))) ∧ Hid (Below B w wr)) (fun _ i _ => n - (intOf i).toNat)
  case atStart => exact ⟨0, _, Nat.zero_le _, rfl, rfl, O0, B0⟩
  case round =>
    clear O0 B0
    obtain ⟨k, x, hk, rfl, rfl, hO, hBl⟩ := hrel
    obtain ⟨wa, wc, rfl⟩ : ∃ wa wc, x = .slice wa (k : Nat) wc := by
      obtain ⟨wa, wc, e⟩ := hO.out.ints.len
      rw [HGL.out k hk] at e
      exact ⟨wa, wc, e⟩
    by_cases hlt : k < n
    · have hki : (k : Int) < (n : Int) := by omega
      obtain ⟨bb, off, rfl, hbw, hcell⟩ := HA.out (by omega)
      have c1 := (hBl.out.cell (p := ⟨bb, _, none⟩) hbw).trans (hcell k hlt).2
      have rg := (HIT.out k).2
      have HW2 := Lib.hid (HTK.out k hlt)
      have R1 : Hid (wr.ownsRow B 2 1 (.slice wa (k : Nat) wc) k ((grams (T.take k)).map (Value.int .i64))) := by
        have h := hO.out.row
        rw [HGL.out k hk] at h
        exact h
      have HZ : Hid (B ≤ wr.heap.size) := Lib.hid (by rw [HB.out]; exact hBl.out.size)
      clear hcell
      generalize (atLt T k).2 = y at *
      go_wp2_with (first
        | (at_builtin; refine wpList_append_lies _ rfl _ _ _ rfl B 2 i0 (.int .i64 0) 1 8 Try.underlying36 hi hz0 hz1 hz2 rfl (by omega) (.slice wa (k : Nat) wc) k _ rfl (R1.out.alloc _) ⟨wr.heap.size, 0, none⟩ 1 1 _ rfl rfl (World.news_of_block (heap_alloc_new wr _)) (int_one1 _) (by omega) (by unfold maxLen; omega) (by omega) (by simp; have := HZ.out; omega) (wr.heap.size + 1) (by simp) ?_; intro g cap w4 hown hgrow hat hlt2)
        | fail)
      have O3 : Hid (Own w4 B (.slice (some ⟨g, 0, none⟩) (k + 1 : Nat) cap) (grams (T.take (k + 1)))) := by
        show World.ownsRow _ _ _ _ _ _ _
        rw [HGL.out (k + 1) hlt, HW2.out, List.map_append, List.map_singleton]
        exact hown
      have B3 := Lib.hid (hBl.out.trans (below_of_own hO.out (grown_al hgrow) HZ.out))
      clear hown hgrow hat hlt2 R1 hO hBl c1
      go_wp2
      go_roundw
      case rel => exact ⟨k + 1, _, by omega, by go_num, rfl, O3, B3⟩
      case measure => simp [intOf]; omega
    · have hkn : k = n := by omega
      subst hkn
      have O1 : Hid (Own wr B (.slice wa (k : Nat) wc) (grams T)) := Lib.hid (by rw [← HT0.out]; exact hO.out)
      have B1 := hBl
      clear hO hBl
      have HGT := Lib.hid fun U => grams_get U
      by_cases hml : l = m
      rotate_left
      · have hne : ((l : Int) != (m : Int)) = true := by rw [bne_iff_ne]; omega
        have HE : Hid (LT = none) := Lib.hid (HRT.out.trans (if_neg hml))
        go_wp2_with fail
        go_returns
        exact ⟨_, _, ret_left (by rw [HE.out]; rfl), O1.out, fun U e => by (rw [HE.out] at e; cases e), B1.out⟩
      · have hne : ((l : Int) != (m : Int)) = false := by simp [hml]
        have HE : Hid (LT = runT T os ps l) := Lib.hid (HRT.out.trans (if_pos hml))
        have HML := Lib.hid hml
        clear hml
        go_wp2_with fail
        go_loopw [10] (fun i wr => ∃ (j : Nat) (U : List Lt), j ≤ l ∧ i = .int .i64 j ∧ Hid (runT T os ps j = some U) ∧ Hid (Own wr B (.slice wa k wc) (grams U)) ∧ Hid (Below B w wr)) (fun i _ => l - (intOf i).toNat)
        case atStart => exact ⟨0, T, by omega, rfl, rfl, O1, B1⟩
        case round =>
          clear O1 B1
          obtain ⟨j, U, hj, rfl, hR, hO, hBl⟩ := hrel
          by_cases hlj : j < l
          · have hjl : (j : Int) < (l : Int) := by omega
            obtain ⟨pb, poff, rfl, hpb, hpc⟩ := HP.out (by omega)
            obtain ⟨ob, ooff, rfl, hob, hoc⟩ := HO.out (by have := HML.out; omega)
            have HK := Lib.hid (HKR.out j (by have := HML.out; omega) U hR.out)
            have hjm : j < m := by have := HML.out; omega
            have p0 := (hBl.out.cell (p := ⟨pb, _, none⟩) hpb).trans (hpc j hlj)
            have o0 := (hBl.out.cell (p := ⟨ob, _, none⟩) hob).trans (hoc j hjm).1
            have o1 := (hBl.out.cell (p := ⟨ob, _, none⟩) hob).trans (hoc j hjm).2
            have HRS := Lib.hid (runT_step hR.out)
            have HST : Hid (stepT U (ps.getD j 0) (atOd os j) = none → LT = none) := Lib.hid fun hs => by
              rw [HE.out, HLL.out]
              exact runT_stop hR.out (by rw [← HLL.out]; exact hlj) hs
            have hok := HOO.out j hjm
            generalize ps.getD j 0 = x at *
            generalize atOd os j = o at *
            obtain ⟨so, og⟩ := o
            have hok' : (inB so 0 9 && inB og 1 5000) = true := hok
            rw [Bool.and_eq_true] at hok'
            have ks := inB_of hok'.1
            have kg := inB_of hok'.2
            simp only at o0 o1
            have HI := Lib.hid fun wx => in_any x (-1) ((k : Int) - 1) wx
            have HUL : Hid (U.length = k) := Lib.hid (by rw [HK.out.1, ← HLN.out])
            clear hok hok' hpc hoc
            cases hin : inB x (-1) ((k : Int) - 1) with
            | false =>
              rw [hin] at HI
              have HN : Hid (LT = none) := Lib.hid (HST.out (stepT_out (by have := inB_no hin; omega) (by have := inB_no hin; have := HUL.out; omega)))
              clear hin
              go_wp2_with fail
              refine (HI.out _).mono ?_
              rintro e w2 ⟨rfl, rfl⟩
              go_wp2_with fail
              go_returns
              exact ⟨_, _, ret_left (by rw [HN.out]; rfl), hO.out, fun U e => by (rw [HN.out] at e; cases e), hBl.out⟩
            | true =>
              rw [hin] at HI
              have hx2 := inB_of hin
              clear hin
              by_cases hx : x < 0
              · obtain rfl : x = -1 := by omega
                have HR2 := Lib.hid (HRS.out.trans (stepT_skip U _))
                go_wp2_with fail
                refine (HI.out _).mono ?_
                rintro e w2 ⟨rfl, rfl⟩
                go_wp2_with fail
                go_roundw
                case rel => exact ⟨j + 1, U, by omega, by go_num, HR2, hO, hBl⟩
                case measure => simp [intOf]; omega
              · obtain ⟨q, rfl⟩ : ∃ q : Nat, x = q := ⟨x.toNat, by omega⟩
                have hqk : q < k := by omega
                obtain ⟨g, rfl, hgB, hgs⟩ := own_at hO.out (by rw [grams_length]; exact HUL.out.symm) (by omega)
                obtain ⟨ab, aoff, rfl, hab, hac⟩ := HA.out (by omega)
                have hac0 := (hac q hqk).1
                have kk := HK.out.2 q
                rw [← kk.1] at hac0
                have hrow := hO.out.row
                rw [grams_length, HUL.out] at hrow
                have c0 := hrow.cellAt q (by omega)
                rw [cellOf (by rw [grams_length, HUL.out]; exact hqk), HGT.out U q] at c0
                have fz : wr.frozen? ⟨g, q, none⟩ = false := hrow.frozenAt q
                have HYES := Lib.hid (stepT_yes (T := U) (q := q) (o := (so, og)) (by rw [HUL.out]; exact hqk))
                have HNOT := Lib.hid (stepT_not (T := U) (q := q) (o := (so, og)))
                have l0 := (hBl.out.cell (p := ⟨ab, _, none⟩) hab).trans hac0
                have PB := (hBl.out.setCell (p := ⟨g, q, none⟩) hgB (.int .i64 ((atLt U q).2 - og))).drew
                have S1 := (hrow.stored q (Value.int .i64 ((atLt U q).2 - og))).1
                have hset : ((grams U).map (Value.int .i64)).set q (Value.int .i64 ((atLt U q).2 - og)) = (grams (U.set q ((atLt U q).1, (atLt U q).2 - og))).map (Value.int .i64) := by
                  rw [← List.map_set]
                  congr 1
                  unfold grams
                  rw [List.map_set]
                rw [hset] at S1
                have O2 : Own (wr.setCell ⟨g, q, none⟩ (.int .i64 ((atLt U q).2 - og))).drew B (.slice (some ⟨g, 0, none⟩) k wc) (grams (U.set q ((atLt U q).1, (atLt U q).2 - og))) := by
                  refine Own.below ?_ (Below.refl _ _).drew
                  show World.ownsRow _ _ _ _ _ _ _
                  have e : (grams (U.set q ((atLt U q).1, (atLt U q).2 - og))).length = k := by rw [grams_length, List.length_set, HUL.out]
                  rw [e]
                  exact S1
                have hrow2 := O2.row
                rw [show (grams (U.set q ((atLt U q).1, (atLt U q).2 - og))).length = k by rw [grams_length, List.length_set, HUL.out]] at hrow2
                have c1 := hrow2.cellAt q (by omega)
                rw [cellOf (by rw [grams_length, List.length_set, HUL.out]; exact hqk), HGT.out _ q, atLt_set (by rw [HUL.out]; exact hqk), if_pos rfl] at c1
                simp only at c1
                have HO2 := Lib.hid O2
                have hcan : canB (atLt U q) (so, og) = (decide ((atLt U q).1 = so) && decide (og ≤ (atLt U q).2)) := rfl
                rw [hcan] at HYES HNOT
                clear hcan O2 S1 hset hrow hrow2
                obtain ⟨W1, hW1⟩ : ∃ W1, W1 = (wr.setCell ⟨g, q, none⟩ (.int .i64 ((atLt U q).2 - og))).drew := ⟨_, rfl⟩
                rw [← hW1] at PB c1 HO2
                have p0' := (PB.cell (p := ⟨pb, _, none⟩) hpb).trans ((hBl.out.cell (p := ⟨pb, _, none⟩) hpb).symm.trans p0)
                have o0' := (PB.cell (p := ⟨ob, _, none⟩) hob).trans ((hBl.out.cell (p := ⟨ob, _, none⟩) hob).symm.trans o0)
                have l0' := (PB.cell (p := ⟨ab, _, none⟩) hab).trans hac0
                have HW1 := Lib.hid hW1
                have HPB := Lib.hid PB
                generalize hU2 : U.set q ((atLt U q).1, (atLt U q).2 - og) = U2 at *
                generalize (atLt U q).1 = ls at *
                generalize (atLt U q).2 = lg at *
                have kl0 := kk.2.1
                have kl1 := kk.2.2
                clear hW1 PB hac hac0 kk hU2
                by_cases hs : ls = so
                · subst hs
                  have hsn : (ls != ls) = false := by simp
                  by_cases hg : og ≤ lg
                  · have hg2 : ¬ (lg - og < 0) := by omega
                    have HR2 := Lib.hid (HRS.out.trans (HYES.out (by simp [hg])))
                    clear HYES HNOT
                    go_wp2_with fail
                    refine (HI.out _).mono ?_
                    rintro e w2 ⟨rfl, rfl⟩
                    go_wp2_with fail
                    go_region
                    rw [← HW1.out]
                    clear p0 o0 o1 l0 c0
                    go_wp2_with fail
                    go_region
                    all_goals
                      go_wp2_with fail
                      go_roundw
                      case rel => exact ⟨j + 1, U2, by omega, by go_num, HR2, HO2.out.below (Below.refl _ _).drew, HPB.out.drew⟩
                      case measure => simp [intOf]; omega
                  · have hg2 : lg - og < 0 := by omega
                    have HN := Lib.hid (HST.out (HNOT.out (by simp [hg])))
                    clear HYES HNOT
                    go_wp2_with fail
                    refine (HI.out _).mono ?_
                    rintro e w2 ⟨rfl, rfl⟩
                    go_wp2_with fail
                    go_region
                    rw [← HW1.out]
                    clear p0 o0 o1 l0 c0
                    go_wp2_with fail
                    go_region
                    all_goals
                      go_wp2_with fail
                      go_returns
                      exact ⟨_, _, ret_left (by rw [HN.out]; rfl), HO2.out.below (Below.refl _ _).drew, fun U e => by (rw [HN.out] at e; cases e), HPB.out.drew⟩
                · have hsn : (ls != so) = true := by rw [bne_iff_ne]; exact hs
                  have HN := Lib.hid (HST.out (HNOT.out (by simp [hs])))
                  clear HYES HNOT
                  go_wp2_with fail
                  refine (HI.out _).mono ?_
                  rintro e w2 ⟨rfl, rfl⟩
                  go_wp2_with fail
                  go_region
                  rw [← HW1.out]
                  clear p0 o0 o1 l0 c0
                  go_wp2_with fail
                  go_region
                  all_goals
                    go_wp2_with fail
                    go_returns
                    exact ⟨_, _, ret_left (by rw [HN.out]; rfl), HO2.out.below (Below.refl _ _).drew, fun U e => by (rw [HN.out] at e; cases e), HPB.out.drew⟩
          · have hjl : j = l := by omega
            subst hjl
            have HN := Lib.hid (HE.out.trans hR.out)
            go_wp2_with fail
            go_returns
            exact ⟨_, _, ret_left (by rw [HN.out]; rfl), hO.out, fun U e => by (rw [HN.out] at e; cases e; rfl), hBl.out⟩
end Go.Proofs.Ytklgklkfolbjcaa
