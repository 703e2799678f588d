/-
  No statement is proved here: orders served from the first lot, or from that with the least left, in the document's own text; condition: at most 1048576 lots and orders.
-/
import Derived.Test.YtapimmlhcbjgoaaFiM
import Derived.Laws.OwnMore
import Derived.Deep.AppendLies
import Derived.BigQuiet
namespace Go.Proofs.Ytapimmlhcbjgoaa
open Go.ChangeShapes Go.WideShapes Go.ChangeAt Go.RowKit

theorem int_oneF (a : Int) : ∀ u ∈ [Value.int .i64 a], u.oneCell' = true := by intro u hu; simp at hu; subst hu; rfl
theorem grams_takeF {T : List Lt} {k : Nat} (hk : k < T.length) : grams (T.take (k + 1)) = grams (T.take k) ++ [(atLt T k).2] := by
  rw [takeLt' hk]
  simp [grams]
theorem below_of_ownF {B : Nat} {w w' : World} {v : Value} {zs : List Int} (h : Own w B v zs) (hg : w.grownBy w' v.ownBlock) (hB : B ≤ w.heap.size) : Below B w w' :=
  (Below.refl B w).grown hg hB (fun k hk => (h.lt k hk).1)
theorem grown_alF {w w' : World} {o : Obj} {row : Option Nat} (h : (w.alloc o).grownBy w' row) : w.grownBy w' row := grown_tr (World.grownBy_alloc w o row) h
theorem grown_drF {w w' : World} {row : Option Nat} (h : w.grownBy w' row) : w.grownBy w'.drew row := ⟨h.os, h.tape, h.output, h.size, h.block⟩
theorem grown_setF (W : World) (b a : Nat) (v : Value) : W.grownBy (W.setCell ⟨b, a, none⟩ v) (some b) :=
  ⟨rfl, rfl, rfl, by simp, fun i _ hne => Below.heap_setCell _ _ _ i (fun e => hne (by rw [e]))⟩
theorem atTo_yes {b : Bool} {T : List Lt} {o : Od} {k : Nat} (h : canB (atLt T k) o = true) (h' : atTo b T o k < 0 ∨ keyF b T k < keyF b T (atTo b T o k).toNat) : atTo b T o (k + 1) = (k : Int) := if_pos ⟨h, h'⟩
theorem atTo_can {b : Bool} {T : List Lt} {o : Od} {k : Nat} (h : canB (atLt T k) o = false) : atTo b T o (k + 1) = atTo b T o k := if_neg (fun x => by rw [h] at x; cases x.1)
theorem atTo_stay {b : Bool} {T : List Lt} {o : Od} {k : Nat} (h : 0 ≤ atTo b T o k) (h' : ¬ keyF b T k < keyF b T (atTo b T o k).toNat) : atTo b T o (k + 1) = atTo b T o k := if_neg (fun x => by rcases x.2 with y | y; omega; exact h' y)
theorem atTo_in (b : Bool) (T : List Lt) (o : Od) (k : Nat) : atTo b T o k = -1 ∨ ∃ q : Nat, atTo b T o k = (q : Int) ∧ q < k := by
  rcases atTo_is b T o k with ⟨e, _⟩ | ⟨q, e, hq, _⟩
  · exact .inl e
  · exact .inr ⟨q, e, hq⟩
theorem grams_set {U : List Lt} {q : Nat} {l z : Int} : ((grams U).map (Value.int .i64)).set q (Value.int .i64 z) = (grams (U.set q (l, z))).map (Value.int .i64) := by
  rw [← List.map_set]
  congr 1
  unfold grams
  rw [List.map_set]

theorem apartF {v1 v2 : Value} {B : Nat} (h1 : ∀ k, v1.ownBlock = some k → k < B) (h2 : ∀ k, v2.ownBlock = some k → B ≤ k) : v1.ownBlock = none ∨ v1.ownBlock ≠ v2.ownBlock := by
  cases e1 : v1.ownBlock with
  | none => exact .inl rfl
  | some a =>
    refine .inr fun e => ?_
    have := h1 a e1
    have := h2 a e.symm
    omega

theorem apartG {v1 v2 : Value} {B : Nat} (h1 : ∀ k, v1.ownBlock = some k → k < B) (h2 : ∀ k, v2.ownBlock = some k → B ≤ k) : v2.ownBlock = none ∨ v2.ownBlock ≠ v1.ownBlock := by
  rcases apartF h1 h2 with h | h
  · cases e2 : v2.ownBlock with
    | none => exact .inl rfl
    | some b => exact .inr (by rw [h]; simp)
  · exact .inr fun e => h e.symm

set_option maxRecDepth 100000 in
set_option maxHeartbeats 16000000 in
theorem l07Fit_any (best : Bool) (va vo : Value) (T : List Lt) (os : List Od) (w : World) (ha : Lts w va T) (ho : Ods w vo os) (hT : isLts T = true) (hO : isOds os = true) :
    Calls Try.prog 22 #[va, vo, .bool best] w fun e w' => ∃ u, e = .returned u ∧ Own w' w.heap.size u (ansTo best T os os.length) ∧ Below w.heap.size w w' := by
  obtain ⟨i0, hi, hz0, hz1, hz2⟩ := info_parts info64
  obtain ⟨hT1, hT6⟩ := isLts_of hT
  obtain ⟨hO1, hO7⟩ := isOds_of hO
  have HOO := Lib.hid (allOd_get hO1)
  have HKR := Lib.hid (fit_kept (b := best) (os := os) hT1 (fun k hk => by
    have h : (inB (atOd os k).1 0 9 && inB (atOd os k).2 1 5000) = true := HOO.out k hk
    rw [Bool.and_eq_true] at h
    exact (inB_of h.2).1))
  obtain ⟨aa, ca, rfl⟩ := ha.len
  obtain ⟨ao, co, rfl⟩ := ho.len
  have HA := Lib.hid ha.at
  have HO := Lib.hid ho.at
  have HIT := Lib.hid ha.1
  have HTK := Lib.hid fun k (hk : k < T.length) => grams_takeF (T := T) hk
  have HT0 := Lib.hid (show grams (T.take T.length) = grams T by rw [List.take_length])
  have HGL := Lib.hid fun k (hk : k ≤ T.length) => (show (grams (T.take k)).length = k by rw [grams_length, List.length_take]; omega)
  have HFN := Lib.hid fun k => fitTo_none (b := best) (T := T) (os := os) (k := k)
  have HFS := Lib.hid fun k q => fitTo_some (b := best) (T := T) (os := os) (k := k) (q := q)
  have HAS := Lib.hid fun k => ansTo_succ best T os k
  have HAL := Lib.hid fun k => ansTo_length best T os k
  have HAA := Lib.hid fun k => show ansAt best T os k = atTo best (fitTo best T os k) (atOd os k) T.length from rfl
  clear ha ho hT1 hO1 hT hO
  obtain ⟨n, hln⟩ : ∃ n, n = T.length := ⟨_, rfl⟩
  obtain ⟨m, hlm⟩ : ∃ m, m = os.length := ⟨_, rfl⟩
  rw [← hln] at HA HT0 HTK HGL HAA hT6 ⊢
  rw [← hlm] at HO HOO hO7 HKR ⊢
  have HLN := Lib.hid hln
  obtain ⟨B, hBe⟩ : ∃ B, B = w.heap.size := ⟨_, rfl⟩
  have HB := Lib.hid hBe
  rw [← hBe] at HA HO ⊢
  have O0 : Hid (Own (w.alloc (.cells #[] 2)) B (.slice (some ⟨w.heap.size, 0, none⟩) 0 0) (grams (T.take 0))) := Lib.hid (World.ownsRow_made w #[] 0 (by omega) (by decide) rfl)
  have B0 : Hid (Below B w (w.alloc (.cells #[] 2))) := (Below.refl _ _).alloc (by omega) _
  clear hln hlm hBe
  go_enter Try.func22, Try.ntmps22
  go_wp2_with fail
  generalize w.alloc (.cells #[] 2) = w1 at *
  go_loopw [7, 8] (fun u i wr => ∃ (k : Nat) (x : Value), k ≤ n ∧ i = .int .i64 k ∧ x = u ∧ Hid (Own wr B x (grams (T.take k))) ∧ Hid (Below B w wr)) (fun _ i _ => n - (intOf i).toNat)
  case atStart => exact ⟨0, _, Nat.zero_le _, rfl, rfl, O0, B0⟩
  case round =>
    clear O0 B0
    obtain ⟨k, x, hk, rfl, rfl, hO, hBl⟩ := hrel
    obtain ⟨wa, wc, rfl⟩ : ∃ wa wc, x = .slice wa (k : Nat) wc := by
      obtain ⟨wa, wc, e⟩ := hO.out.ints.len
      rw [HGL.out k hk] at e
      exact ⟨wa, wc, e⟩
    by_cases hlt : k < n
    · have hki : (k : Int) < (n : Int) := by omega
      obtain ⟨bb, off, rfl, hbw, hcell⟩ := HA.out (by omega)
      have c1 := (hBl.out.cell (p := ⟨bb, _, none⟩) hbw).trans (hcell k hlt).2
      have rg := (HIT.out k).2
      have HW2 := Lib.hid (HTK.out k hlt)
      have R1 : Hid (wr.ownsRow B 2 1 (.slice wa (k : Nat) wc) k ((grams (T.take k)).map (Value.int .i64))) := by
        have h := hO.out.row
        rw [HGL.out k hk] at h
        exact h
      have HZ : Hid (B ≤ wr.heap.size) := Lib.hid (by rw [HB.out]; exact hBl.out.size)
      clear hcell
      generalize (atLt T k).2 = y at *
      go_wp2_with (first
        | (at_builtin; refine wpList_append_lies _ rfl _ _ _ rfl B 2 i0 (.int .i64 0) 1 8 Try.underlying26 hi hz0 hz1 hz2 rfl (by omega) (.slice wa (k : Nat) wc) k _ rfl (R1.out.alloc _) ⟨wr.heap.size, 0, none⟩ 1 1 _ rfl rfl (World.news_of_block (heap_alloc_new wr _)) (int_oneF _) (by omega) (by unfold maxLen; omega) (by omega) (by simp; have := HZ.out; omega) (wr.heap.size + 1) (by simp) ?_; intro g cap w4 hown hgrow hat hlt2)
        | fail)
      have O3 : Hid (Own w4 B (.slice (some ⟨g, 0, none⟩) (k + 1 : Nat) cap) (grams (T.take (k + 1)))) := by
        show World.ownsRow _ _ _ _ _ _ _
        rw [HGL.out (k + 1) hlt, HW2.out, List.map_append, List.map_singleton]
        exact hown
      have B3 := Lib.hid (hBl.out.trans (below_of_ownF hO.out (grown_alF hgrow) HZ.out))
      clear hown hgrow hat hlt2 R1 hO hBl c1
      go_wp2
      go_roundw
      case rel => exact ⟨k + 1, _, by omega, by go_num, rfl, O3, B3⟩
      case measure => simp [intOf]; omega
    · have hkn : k = n := by omega
      subst hkn
      have O1 : Hid (Own wr B (.slice wa (k : Nat) wc) (grams T)) := Lib.hid (by rw [← HT0.out]; exact hO.out)
      have B1 := hBl
      have HZ1 : Hid (B ≤ wr.heap.size) := Lib.hid (by rw [HB.out]; exact hBl.out.size)
      clear hO hBl HTK
      have HGT := Lib.hid fun U => grams_get U
      obtain ⟨D, hD⟩ : ∃ D, D = wr.heap.size := ⟨_, rfl⟩
      have HD := Lib.hid hD
      have L0 : Hid (Own (wr.alloc (.cells #[] 2)) B (.slice wa (k : Nat) wc) (grams T)) := Lib.hid (O1.out.below ((Below.refl _ _).alloc (Nat.le_refl _) _))
      have A0 : Hid (Own (wr.alloc (.cells #[] 2)) D (.slice (some ⟨wr.heap.size, 0, none⟩) 0 0) (ansTo best T os 0)) := Lib.hid (World.ownsRow_made wr #[] 0 (by omega) (by decide) rfl)
      have B2 := Lib.hid (B1.out.alloc HZ1.out (.cells #[] 2))
      have HZD : Hid (D ≤ (wr.alloc (.cells #[] 2)).heap.size) := Lib.hid (by rw [hD]; simp)
      clear B1 hD
      go_wp2_with fail
      generalize wr.alloc (.cells #[] 2) = w2 at *
      go_loopw [9, 10] (fun u i wq => ∃ (j : Nat) (x : Value), j ≤ m ∧ i = .int .i64 j ∧ x = u ∧ Hid (Own wq B (.slice wa k wc) (grams (fitTo best T os j))) ∧ Hid (Own wq D x (ansTo best T os j)) ∧ Hid (Below B w wq) ∧ Hid (D ≤ wq.heap.size)) (fun _ i _ => m - (intOf i).toNat)
      case atStart => exact ⟨0, _, Nat.zero_le _, rfl, rfl, L0, A0, B2, HZD⟩
      case round =>
        clear L0 A0 B2 HZD
        obtain ⟨j, x, hj, rfl, rfl, hL, hA, hBl, hZq⟩ := hrel
        by_cases hlj : j < m
        · have hjI : (j : Int) < (m : Int) := by omega
          have HK := Lib.hid (HKR.out j (by omega))
          have hF1 := HFN.out j
          have hF2 := HFS.out j
          have hAj := HAA.out j
          have HASj := Lib.hid (HAS.out j)
          have HALj := Lib.hid (HAL.out j)
          have HALj1 := Lib.hid (HAL.out (j + 1))
          generalize hU2e : fitTo best T os (j + 1) = U2 at *
          have HU2E := Lib.hid hU2e
          clear hU2e
          generalize fitTo best T os j = U at *
          generalize ansAt best T os j = aj at *
          obtain ⟨ob, ooff, rfl, hob, hoc⟩ := HO.out (by omega)
          have o0 := (hBl.out.cell (p := ⟨ob, _, none⟩) hob).trans (hoc j hlj).1
          have o1 := (hBl.out.cell (p := ⟨ob, _, none⟩) hob).trans (hoc j hlj).2
          have hok := HOO.out j hlj
          have HUL : Hid (U.length = k) := Lib.hid (by rw [HK.out.1, ← HLN.out])
          generalize atOd os j = o at *
          obtain ⟨so, og⟩ := o
          have hok' : (inB so 0 9 && inB og 1 5000) = true := hok
          rw [Bool.and_eq_true] at hok'
          have kg := inB_of hok'.2
          simp only at o0 o1
          have HF1 := Lib.hid hF1
          have HF2 := Lib.hid hF2
          have HAJ := Lib.hid hAj
          clear hok hok' hoc hF1 hF2 hAj
          have hrow := hL.out.row
          rw [grams_length, HUL.out] at hrow
          have HRW := Lib.hid hrow
          clear hrow
          go_wp2_with fail
          go_loopw [11, 12] (fun y i ws => ∃ (q nd : Nat), q ≤ k ∧ i = .int .i64 q ∧ y = .int .i64 (atTo best U (so, og) q) ∧ ws = wr.drewN nd) (fun _ i _ => k - (intOf i).toNat)
          case atStart => exact ⟨0, 0, Nat.zero_le _, rfl, rfl, rfl⟩
          case round =>
            obtain ⟨q, nd, hq, rfl, rfl, rfl⟩ := hrel
            by_cases hqk : q < k
            · have hqI : (q : Int) < (k : Int) := by omega
              obtain ⟨ab, aoff, rfl, hab, hac⟩ := HA.out (by omega)
              obtain ⟨g, rfl, hgB, hgs⟩ := own_at hL.out (by rw [grams_length]; exact HUL.out.symm) (by omega)
              have kk := HK.out.2 q
              have l0 := (hBl.out.cell (p := ⟨ab, _, none⟩) hab).trans (hac q hqk).1
              rw [← kk.1] at l0
              have c0 := HRW.out.cellAt q (by omega)
              rw [cellOf (by rw [grams_length, HUL.out]; exact hqk), HGT.out U q] at c0
              have HYES := Lib.hid (atTo_yes (b := best) (T := U) (o := (so, og)) (k := q))
              have HCAN := Lib.hid (atTo_can (b := best) (T := U) (o := (so, og)) (k := q))
              have HSTY := Lib.hid (atTo_stay (b := best) (T := U) (o := (so, og)) (k := q))
              have HCB := Lib.hid (show canB (atLt U q) (so, og) = (decide ((atLt U q).1 = so) && decide (og ≤ (atLt U q).2)) from rfl)
              have hkq := kk.2
              clear hac
              by_cases hs : (atLt U q).1 = so
              · have e1 : ((atLt U q).1 == so) = true := by rw [beq_iff_eq]; exact hs
                by_cases hg : og ≤ (atLt U q).2
                · have e2 : decide (og ≤ (atLt U q).2) = true := decide_eq_true hg
                  have HC1 := Lib.hid (HCB.out.trans (by rw [decide_eq_true hs, e2]))
                  rcases atTo_in best U (so, og) q with hy | ⟨p, hy, hp⟩
                  · have HN := Lib.hid (HYES.out HC1.out (.inl (by omega)))
                    rw [hy]
                    have e3 : decide ((-1 : Int) < 0) = true := by decide
                    clear HYES HCAN HSTY HCB HC1 hs hg kk
                    generalize (atLt U q).1 = ls at *
                    generalize (atLt U q).2 = lg at *
                    go_wp2_with fail
                    go_quiet (fail)
                    go_wp2_with fail
                    go_roundw
                    case rel => exact ⟨q + 1, _, by omega, by go_num, by rw [HN.out], rfl⟩
                    case measure => simp [intOf]; omega
                  · rw [hy] at HYES HSTY ⊢
                    have e3 : decide ((p : Int) < 0) = false := by simp
                    have cp := HRW.out.cellAt p (by omega)
                    rw [cellOf (by rw [grams_length, HUL.out]; omega), HGT.out U p] at cp
                    have hpI : (p : Int) < (k : Int) := by omega
                    cases best with
                    | false =>
                      have HN := Lib.hid (HSTY.out (by omega) (by simp [keyF]))
                      clear HYES HCAN HSTY HCB HC1 hs hg kk
                      generalize (atLt U q).1 = ls at *
                      generalize (atLt U q).2 = lg at *
                      generalize (atLt U p).2 = lp at *
                      go_wp2_with fail
                      go_quiet (fail)
                      go_wp2_with fail
                      go_roundw
                      case rel => exact ⟨q + 1, _, by omega, by go_num, by rw [HN.out], rfl⟩
                      case measure => simp [intOf]; omega
                    | true =>
                      have HKq := Lib.hid (show keyF true U q = (atLt U q).2 from rfl)
                      have HKp := Lib.hid (show keyF true U ((p : Int).toNat) = (atLt U p).2 from rfl)
                      by_cases hl : (atLt U q).2 < (atLt U p).2
                      · have HN := Lib.hid (HYES.out HC1.out (.inr (by rw [HKq.out, HKp.out]; exact hl)))
                        have e4 : decide ((atLt U q).2 < (atLt U p).2) = true := decide_eq_true hl
                        clear HYES HCAN HSTY HCB HC1 hs hg kk HKq HKp
                        generalize (atLt U q).1 = ls at *
                        generalize (atLt U q).2 = lg at *
                        generalize (atLt U p).2 = lp at *
                        go_wp2_with fail
                        go_quiet (fail)
                        go_wp2_with fail
                        go_roundw
                        case rel => exact ⟨q + 1, _, by omega, by go_num, by rw [HN.out], rfl⟩
                        case measure => simp [intOf]; omega
                      · have HN := Lib.hid (HSTY.out (by omega) (by rw [HKq.out, HKp.out]; exact hl))
                        have e4 : decide ((atLt U q).2 < (atLt U p).2) = false := decide_eq_false hl
                        clear HYES HCAN HSTY HCB HC1 hs hg kk HKq HKp hl
                        generalize (atLt U q).1 = ls at *
                        generalize (atLt U q).2 = lg at *
                        generalize (atLt U p).2 = lp at *
                        go_wp2_with fail
                        go_quiet (fail)
                        go_wp2_with fail
                        go_roundw
                        case rel => exact ⟨q + 1, _, by omega, by go_num, by rw [HN.out], rfl⟩
                        case measure => simp [intOf]; omega
                · have e2 : decide (og ≤ (atLt U q).2) = false := decide_eq_false hg
                  have HN := Lib.hid (HCAN.out (HCB.out.trans (by rw [e2]; simp)))
                  clear HYES HCAN HSTY HCB hs hg kk
                  generalize (atLt U q).1 = ls at *
                  generalize (atLt U q).2 = lg at *
                  generalize atTo best U (so, og) q = yy at *
                  go_wp2_with fail
                  go_quiet (fail)
                  go_wp2_with fail
                  go_roundw
                  case rel => exact ⟨q + 1, _, by omega, by go_num, by rw [HN.out], rfl⟩
                  case measure => simp [intOf]; omega
              · have e1 : ((atLt U q).1 == so) = false := by rw [beq_eq_false_iff_ne]; exact hs
                have HN := Lib.hid (HCAN.out (HCB.out.trans (by rw [decide_eq_false hs]; rfl)))
                clear HYES HCAN HSTY HCB hs kk
                generalize (atLt U q).1 = ls at *
                generalize (atLt U q).2 = lg at *
                generalize atTo best U (so, og) q = yy at *
                go_wp2_with fail
                go_quiet (fail)
                go_wp2_with fail
                go_roundw
                case rel => exact ⟨q + 1, _, by omega, by go_num, by rw [HN.out], rfl⟩
                case measure => simp [intOf]; omega
            · obtain rfl : q = k := by omega
              have HAP := Lib.hid (show ∀ (z : Int), aj = z → (grams U2 = grams U2) → ansTo best T os (j + 1) = ansTo best T os j ++ [z] from fun z hz _ => by rw [HASj.out, hz])
              have RA : Hid ((wr.drewN nd).ownsRow D 2 1 x j ((ansTo best T os j).map (Value.int .i64))) := Lib.hid (by
                have h := (hA.out.below (bdN wr nd)).row
                rwa [HALj.out] at h)
              have LA : Hid (Own (wr.drewN nd) B (.slice wa q wc) (grams U)) := Lib.hid (hL.out.below (bdN wr nd))
              have BA : Hid (Below B w (wr.drewN nd)) := Lib.hid (hBl.out.trans ((bdN wr nd).mono (by have := hZq.out; have := HZ1.out; rw [HD.out] at *; omega)))
              have ZA : Hid (D ≤ (wr.drewN nd).heap.size) := Lib.hid hZq.out
              have o1' : (wr.drewN nd).cell? ⟨ob, ooff + j * 2 + 1, none⟩ = some (.int .i16 og) := o1
              have HDB := Lib.hid (show B ≤ D by rw [HD.out]; exact HZ1.out)
              have HPX := Lib.hid (show ∀ kk, x.ownBlock = some kk → D ≤ kk from fun kk hkk => (hA.out.lt kk hkk).1)
              have HPL := Lib.hid (show ∀ kk, (Value.slice wa q wc).ownBlock = some kk → kk < D from fun kk hkk => by rw [HD.out]; exact (O1.out.lt kk hkk).2)
              clear hL hA hBl hZq o0 o1 HRW
              generalize wr.drewN nd = w3 at *
              rcases atTo_is best U (so, og) q with ⟨hy, _⟩ | ⟨p, hy, hp, hcan, _⟩
              · have HAJ2 := Lib.hid (HAJ.out.trans hy)
                have HU2 := Lib.hid (HF1.out HAJ2.out)
                rw [hy]
                clear hy HF1 HF2 o1'
                go_wp2_with (first
                  | (at_builtin; refine wpList_append_lies _ rfl _ _ _ rfl D 2 i0 (.int .i64 0) 1 8 Try.underlying26 hi hz0 hz1 hz2 rfl (by omega) x j _ rfl (RA.out.alloc _) ⟨w3.heap.size, 0, none⟩ 1 1 [.int .i64 (-1)] rfl rfl (World.news_of_block (heap_alloc_new w3 _)) (int_oneF _) (by omega) (by unfold maxLen; omega) (by omega) (by have := ZA.out; simp; omega) (w3.heap.size + 1) (by simp) ?_; intro gg cap w4 hown hgrow hat hlt2)
                  | fail)
                have O3 : Hid (Own w4 D (.slice (some ⟨gg, 0, none⟩) (j + 1 : Nat) cap) (ansTo best T os (j + 1))) := by
                  show World.ownsRow _ _ _ _ _ _ _
                  rw [HALj1.out, HASj.out, HAJ2.out, List.map_append, List.map_singleton]
                  exact hown
                have L3 := Lib.hid (LA.out.kept (grown_alF hgrow) (apartF HPL.out HPX.out))
                have B3 := Lib.hid (BA.out.grown (grown_alF hgrow) (by have := ZA.out; have := HDB.out; omega) (fun kk hkk => Nat.le_trans HDB.out (HPX.out kk hkk)))
                have Z3 := Lib.hid (Nat.le_trans ZA.out (grown_alF hgrow).size)
                clear hown hgrow hat hlt2
                go_wp2_with fail
                go_roundw
                case rel => exact ⟨j + 1, _, by omega, by go_num, rfl, Lib.hid (by rw [HU2E.out, HU2.out]; exact L3.out), O3, B3, Z3⟩
                case measure => simp [intOf]; omega
              · have HAJ2 := Lib.hid (HAJ.out.trans hy)
                have HU2 : Hid (U2 = U.set p ((atLt U p).1, (atLt U p).2 - og)) := Lib.hid (HF2.out p HAJ2.out (by rw [HUL.out]; exact hp) hcan)
                rw [hy]
                obtain ⟨g, rfl, hgB, hgs⟩ := own_at LA.out (by rw [grams_length]; exact HUL.out.symm) (by omega)
                have hrow := LA.out.row
                rw [grams_length, HUL.out] at hrow
                have c0 := hrow.cellAt p (by omega)
                rw [cellOf (by rw [grams_length, HUL.out]; exact hp), HGT.out U p] at c0
                have f0 : w3.frozen? ⟨g, p, none⟩ = false := hrow.frozenAt p
                have kp := (HK.out.2 p).2
                have hpI : (p : Int) < (q : Int) := by omega
                have S1 := (hrow.stored p (Value.int .i64 ((atLt U p).2 - og))).1
                rw [grams_set (l := (atLt U p).1)] at S1
                have HL5 := Lib.hid (show (grams (U.set p ((atLt U p).1, (atLt U p).2 - og))).length = q by rw [grams_length, List.length_set, HUL.out])
                have HS1 := Lib.hid S1
                have HG1 := Lib.hid (grown_setF w3 g p (Value.int .i64 ((atLt U p).2 - og)))
                have G5 : w3.grownBy (w3.setCell ⟨g, p, none⟩ (Value.int .i64 ((atLt U p).2 - og))).drew (some g) := grown_drF HG1.out
                have LA5 : Hid (Own (w3.setCell ⟨g, p, none⟩ (Value.int .i64 ((atLt U p).2 - og))).drew B (.slice (some ⟨g, 0, none⟩) q wc) (grams (U.set p ((atLt U p).1, (atLt U p).2 - og)))) := Lib.hid (Own.below (by unfold Own; rw [HL5.out]; exact HS1.out) (Below.refl _ _).drew)
                have RA5 := Lib.hid (RA.out.kept G5 (apartG HPL.out HPX.out))
                have BA5 := Lib.hid (BA.out.grown G5 (by have := ZA.out; have := HDB.out; omega) (fun kk hkk => by have e : g = kk := Option.some.inj hkk; omega))
                have ZA5 := Lib.hid (Nat.le_trans ZA.out G5.size)
                clear hy hcan HF1 HF2 hrow S1 G5
                generalize (atLt U p).1 = ls at *
                generalize (atLt U p).2 = lg at *
                generalize U.set p (ls, lg - og) = U3 at *
                obtain ⟨w5, hw5⟩ : ∃ w5, w5 = (w3.setCell ⟨g, p, none⟩ (Value.int .i64 (lg - og))).drew := ⟨_, rfl⟩
                rw [← hw5] at LA5 RA5 BA5 ZA5
                have HW5 := Lib.hid hw5
                clear hw5 LA RA BA
                go_wp2_with fail
                go_region
                rw [← HW5.out]
                go_wp2_with (first
                  | (at_builtin; refine wpList_append_lies _ rfl _ _ _ rfl D 2 i0 (.int .i64 0) 1 8 Try.underlying26 hi hz0 hz1 hz2 rfl (by omega) x j _ rfl (RA5.out.alloc _) ⟨w5.heap.size, 0, none⟩ 1 1 [.int .i64 (p : Int)] rfl rfl (World.news_of_block (heap_alloc_new w5 _)) (int_oneF _) (by omega) (by unfold maxLen; omega) (by omega) (by have := ZA5.out; simp; omega) (w5.heap.size + 1) (by simp) ?_; intro gg cap w4 hown hgrow hat hlt2)
                  | fail)
                have O3 : Hid (Own w4 D (.slice (some ⟨gg, 0, none⟩) (j + 1 : Nat) cap) (ansTo best T os (j + 1))) := by
                  show World.ownsRow _ _ _ _ _ _ _
                  rw [HALj1.out, HASj.out, HAJ2.out, List.map_append, List.map_singleton]
                  exact hown
                have L3 := Lib.hid (LA5.out.kept (grown_alF hgrow) (apartF HPL.out HPX.out))
                have B3 := Lib.hid (BA5.out.grown (grown_alF hgrow) (by have := ZA5.out; have := HDB.out; omega) (fun kk hkk => Nat.le_trans HDB.out (HPX.out kk hkk)))
                have Z3 := Lib.hid (Nat.le_trans ZA5.out (grown_alF hgrow).size)
                clear hown hgrow hat hlt2
                go_wp2_with fail
                go_roundw
                case rel => exact ⟨j + 1, _, by omega, by go_num, rfl, Lib.hid (by rw [HU2E.out, HU2.out]; exact L3.out), O3, B3, Z3⟩
                case measure => simp [intOf]; omega
        · obtain rfl : j = m := by omega
          have HAo := Lib.hid (hA.out.mono (show B ≤ D by rw [HD.out]; exact HZ1.out))
          clear hL hA
          go_wp2_with fail
          go_ret
          exact ⟨_, rfl, HAo.out, hBl.out⟩
end Go.Proofs.Ytapimmlhcbjgoaa
