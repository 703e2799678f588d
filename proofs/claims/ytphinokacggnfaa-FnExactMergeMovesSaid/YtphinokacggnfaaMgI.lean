/-
  No statement is proved here: MergeMoves in the program; condition: at most 1048576 moves.
-/
import Derived.Test.YtphinokacggnfaaMgB
import Derived.Test.YtphinokacggnfaaMgS
import Derived.Deep.MidRow
namespace Go.Proofs.Ytphinokacggnfaa
open Go.ChangeShapes Go.WideShapes Go.ChangeAt Go.RowKit

theorem own_none {W : World} {B : Nat} {x : Value} {n : Nat} {cs : List Value} (_ : W.ownsRow B 53 3 x n cs) : x.ownBlock = none ∨ x.ownBlock ≠ none := by
  cases x.ownBlock with
  | none => exact .inl rfl
  | some k => exact .inr (by simp)
set_option maxRecDepth 100000 in
set_option maxHeartbeats 16000000 in
theorem implMerge_any (v : Value) (ms : List Mv) (w : World) (h : Mvs w v ms) (hn : ms.length ≤ 1048576) :
    Calls Try.prog 39 #[v] w fun e w' => ∃ r, e = .returned (.tuple #[r, .int .i64 (mergeF ms).2]) ∧ OwnMv w' w.heap.size r (mergeF ms).1 ∧ Below w.heap.size w w' := by
  obtain ⟨i0, hi, hz0, hz1, hz2⟩ := info_parts infoMove
  have HMT : Hid (∀ j, IsMv (atMv ([] : List Mv) j)) := Lib.hid fun j => by simp [atMv, IsMv]
  have HV := Lib.hid (implMvs_any v ms w h hn)
  obtain ⟨va, vc, rfl⟩ := h.len
  have HP := Lib.hid h.at
  clear h
  cases hv : isMvs ms with
  | false =>
    rw [hv] at HV
    rw [mergeF_no hv]
    clear hv
    go_enter Try.func39, Try.ntmps39
    go_wp2_with fail
    refine HV.out.mono ?_
    rintro e w1 ⟨rfl, hB⟩
    have T1 := Lib.hid hB
    clear hB
    go_wp2_with fail
    go_returns
    exact ⟨_, rfl, ⟨HMT.out, by simpa [cellsMv] using World.ownsRow_nil _ _ _ _⟩, T1.out⟩
  | true =>
    rw [hv] at HV
    obtain ⟨hall, h60⟩ := isMvs_of hv
    have HIN := Lib.hid (fun a b => sumFT_in hall a b)
    have HOK := Lib.hid (allMv_get hall)
    have HMU := Lib.hid fun t ht h1 => @mergeF_much ms t hv ht h1
    have HYE := Lib.hid fun h1 => @mergeF_yes ms hv h1
    have HTO := Lib.hid fun (a b : Nat) hb => @tot_ab ms a b hb
    have HIS := Lib.hid fun t ht h => @mergeTo_is ms t ht h
    have HLE := Lib.hid fun t => @mergeTo_length ms t
    clear hv hall hn
    obtain ⟨n, hln⟩ : ∃ n, n = ms.length := ⟨_, rfl⟩
    rw [← hln] at HP HV HIN HOK h60 HTO ⊢
    have HNL := Lib.hid hln.symm
    clear hln
    generalize mergeF ms = MF at *
    go_enter Try.func39, Try.ntmps39
    go_wp2_with fail
    refine HV.out.mono ?_
    rintro e w1 ⟨rfl, hB⟩
    have T1 := Lib.hid hB
    obtain ⟨W2, hW2⟩ : ∃ W2, W2 = w1.alloc (.cells #[.int .i64 0, .int .i64 0, .int .i64 0, .int .i64 0, .int .i64 0, .int .i64 0, .int .i64 0, .int .i64 0, .int .i64 0, .int .i64 0, .int .i64 0, .int .i64 0, .int .i64 0, .int .i64 0, .int .i64 0, .int .i64 0, .int .i64 0, .int .i64 0, .int .i64 0, .int .i64 0, .int .i64 0, .int .i64 0, .int .i64 0, .int .i64 0, .int .i64 0] 66) := ⟨_, rfl⟩
    have T2 : Hid (Below w.heap.size w W2) := Lib.hid (by rw [hW2]; exact T1.out.alloc T1.out.size _)
    have X2 : Hid (Box25 W2 w1.heap.size (sumAt ms 0)) := Lib.hid (by rw [hW2]; exact Box25.made w1 _)
    have HNB := Lib.hid T1.out.size
    have HW2 := Lib.hid hW2
    clear hB hW2
    go_wp2_with fail
    rw [← HW2.out]
    generalize w1.heap.size = nb at *
    go_loopw [17] (fun i wr => ∃ k : Nat, k ≤ n ∧ i = .int .i64 k ∧ Hid (Box25 wr nb (sumAt ms k)) ∧ Hid (Below w.heap.size w wr)) (fun i _ => n - (intOf i).toNat)
    case atStart => exact ⟨0, Nat.zero_le _, rfl, X2, T2⟩
    case round =>
      clear X2 T2
      obtain ⟨k, hk, rfl, hX, hB⟩ := hrel
      by_cases hlt : k < n
      · as_aux_lemma =>
        obtain ⟨b, off, rfl, hb, hc⟩ := HP.out (by omega)
        have hck := hc k hlt
        have hok := HOK.out k hlt
        obtain ⟨y, hy⟩ : ∃ y, y = atMv ms k := ⟨_, rfl⟩
        rw [← hy] at hck hok
        obtain ⟨y0, y1, g⟩ := y
        obtain ⟨p, q, rfl, rfl, hp3, hq1, hq5, hpq, hg0, hg1⟩ := okMv_parts hok
        have d0 := (hB.out.cell (p := ⟨b, _, none⟩) hb).trans hck.1
        have d1 := (hB.out.cell (p := ⟨b, _, none⟩) hb).trans hck.2.1
        have d2 := (hB.out.cell (p := ⟨b, _, none⟩) hb).trans hck.2.2
        have hin := HIN.out p q k hk
        have hst := sumAt_step (ms := ms) (k := k) hq5 hy.symm
        obtain ⟨W3, hW3⟩ : ∃ W3, W3 = wr.alloc (.cells #[.int .i8 p, .int .i8 q, .int .i16 g] 53) := ⟨_, rfl⟩
        have al : Below wr.heap.size wr W3 := by rw [hW3]; exact (Below.refl wr.heap.size wr).alloc (Nat.le_refl _) _
        have X3 := hX.out.below al
        have m0 : W3.cell? ⟨wr.heap.size, 0, none⟩ = some (.int .i8 p) := by rw [hW3]; simp [go_sem]
        have m1 : W3.cell? ⟨wr.heap.size, 1, none⟩ = some (.int .i8 q) := by rw [hW3]; simp [go_sem]
        have m2 : W3.cell? ⟨wr.heap.size, 2, none⟩ = some (.int .i16 g) := by rw [hW3]; simp [go_sem]
        have cz := X3.1 (p * 5 + q) (by omega)
        have fz := X3.2
        have hv : sumAt ms k (p * 5 + q) = sumFT ms p q k := by unfold sumAt; rw [show (p * 5 + q) / 5 = p by omega, show (p * 5 + q) % 5 = q by omega]
        have X4 := Lib.hid (X3.put (p * 5 + q) (by omega) (sumAt ms k (p * 5 + q) + g) hst).drew
        have B4 := Lib.hid ((hB.out.trans (al.mono hB.out.size)).setCell (p := ⟨nb, p * 5 + q, none⟩) HNB.out (.int .i64 (sumAt ms k (p * 5 + q) + g))).drew
        rw [hv] at cz X4 B4
        have HW3 := Lib.hid hW3
        clear hc hck hok hy hst al X3 hv hW3 hX hB
        generalize sumFT ms p q k = z at *
        go_wp2_with fail
        rw [← HW3.out]
        go_region
        all_goals
          go_wp2_with fail
          go_roundw
          case rel => exact ⟨k + 1, by omega, by go_num, X4, B4⟩
          case measure => simp [intOf]; omega
      · as_aux_lemma =>
        have hkn : k = n := by omega
        subst hkn
        have HX := Lib.hid (show Box25 wr nb (tot ms) from (by have h := hX.out; rw [show tot ms = sumAt ms ms.length from rfl, HNL.out]; exact h))
        have HRI := Lib.hid fun a ha wx => index_row ms a ha wx
        have HCI := Lib.hid fun a b hb wx => index_cell ms a b hb wx
        have HRG : Hid (wr.rangeAt nb 0 [.int .i64 (tot ms 0), .int .i64 (tot ms 1), .int .i64 (tot ms 2), .int .i64 (tot ms 3), .int .i64 (tot ms 4), .int .i64 (tot ms 5), .int .i64 (tot ms 6), .int .i64 (tot ms 7), .int .i64 (tot ms 8), .int .i64 (tot ms 9), .int .i64 (tot ms 10), .int .i64 (tot ms 11), .int .i64 (tot ms 12), .int .i64 (tot ms 13), .int .i64 (tot ms 14), .int .i64 (tot ms 15), .int .i64 (tot ms 16), .int .i64 (tot ms 17), .int .i64 (tot ms 18), .int .i64 (tot ms 19), .int .i64 (tot ms 20), .int .i64 (tot ms 21), .int .i64 (tot ms 22), .int .i64 (tot ms 23), .int .i64 (tot ms 24)]) := Lib.hid (fun j v hv => (by
          have hj : j < 25 := by
            have := (List.getElem?_eq_some_iff.1 hv).1
            simpa using this
          have h25 : j = 0 ∨ j = 1 ∨ j = 2 ∨ j = 3 ∨ j = 4 ∨ j = 5 ∨ j = 6 ∨ j = 7 ∨ j = 8 ∨ j = 9 ∨ j = 10 ∨ j = 11 ∨ j = 12 ∨ j = 13 ∨ j = 14 ∨ j = 15 ∨ j = 16 ∨ j = 17 ∨ j = 18 ∨ j = 19 ∨ j = 20 ∨ j = 21 ∨ j = 22 ∨ j = 23 ∨ j = 24 := by omega
          have hxj := HX.out.1 j hj
          rw [Nat.zero_add, hxj]
          rcases h25 with rfl | rfl | rfl | rfl | rfl | rfl | rfl | rfl | rfl | rfl | rfl | rfl | rfl | rfl | rfl | rfl | rfl | rfl | rfl | rfl | rfl | rfl | rfl | rfl | rfl <;> (simp only [List.getElem?_cons_zero, List.getElem?_cons_succ] at hv; exact hv)))
        have T5 := hB
        have OE : Hid (wr.ownsRow w.heap.size 53 3 (.slice none 0 0) (mergeTo ms 0).length (cellsMv (mergeTo ms 0))) := Lib.hid (World.ownsRow_nil _ _ _ _)
        clear hX hB
        go_wp2_with (first | (refine wpList_load_mid rfl 66 (.tmp 4) rfl nb 0 rfl _ _ HRG.out Try.underlying66 rfl (by kernel_rfl) ?_) | fail)
        go_loopw [7, 36] (fun u i wr => ∃ (a : Nat) (x : Value), a ≤ 5 ∧ i = .int .i64 a ∧ x = u ∧ Hid (fewTo ms (5 * a)) ∧ Hid (wr.ownsRow w.heap.size 53 3 x (mergeTo ms (5 * a)).length (cellsMv (mergeTo ms (5 * a)))) ∧ Hid (Below w.heap.size w wr)) (fun _ i _ => 5 - (intOf i).toNat)
        case atStart => exact ⟨0, _, by omega, rfl, rfl, Lib.hid (fun s hs => by omega), OE, T5⟩
        case round =>
          clear OE T5
          obtain ⟨a, x, ha, rfl, rfl, hF, hO, hB⟩ := hrel
          by_cases hla : a < 5
          · as_aux_lemma =>
            have hai : (a : Int) < 5 := by omega
            have hri := HRI.out a hla
            have hci := fun b hb => HCI.out a b hb
            unfold rowV at hri hci
            have HCJ := Lib.hid hci
            clear hci
            have B1 := Lib.hid (hB.out.alloc hB.out.size (.cells #[.int .i64 (tot ms (5 * a)), .int .i64 (tot ms (5 * a + 1)), .int .i64 (tot ms (5 * a + 2)), .int .i64 (tot ms (5 * a + 3)), .int .i64 (tot ms (5 * a + 4))] 58))
            have O1 := Lib.hid (hO.out.kept (row := none) (World.grownBy_alloc wr (.cells #[.int .i64 (tot ms (5 * a)), .int .i64 (tot ms (5 * a + 1)), .int .i64 (tot ms (5 * a + 2)), .int .i64 (tot ms (5 * a + 3)), .int .i64 (tot ms (5 * a + 4))] 58) none) (own_none hO.out))
            clear hO hB
            go_wp2_with fail
            clear hri
            go_loopw [7, 41] (fun u i wr => ∃ (b : Nat) (x : Value), b ≤ 5 ∧ i = .int .i64 b ∧ x = u ∧ Hid (fewTo ms (5 * a + b)) ∧ Hid (wr.ownsRow w.heap.size 53 3 x (mergeTo ms (5 * a + b)).length (cellsMv (mergeTo ms (5 * a + b)))) ∧ Hid (Below w.heap.size w wr)) (fun _ i _ => 5 - (intOf i).toNat)
            case atStart => exact ⟨0, _, by omega, rfl, rfl, hF, O1, B1⟩
            case round =>
              clear hF O1 B1
              obtain ⟨b, x, hb, rfl, rfl, hF, hO, hB⟩ := hrel
              by_cases hlb : b < 5
              · as_aux_lemma =>
                have hbi : (b : Int) < 5 := by omega
                have hcj := HCJ.out b hlb
                have hz := HTO.out a b hlb
                have hin := HIN.out a b k (Nat.le_refl _)
                have HSU := Lib.hid (show 5 * a + (b + 1) = 5 * a + b + 1 by omega)
                rw [← hz] at hin
                obtain ⟨z, hze⟩ : ∃ z, z = tot ms (5 * a + b) := ⟨_, rfl⟩
                have HZE := Lib.hid hze
                rw [← hze] at hin hcj
                clear hze hz
                obtain ⟨wa, wc, L, rfl, hL⟩ := row_shape hO.out
                by_cases hm : 5000 < z
                · have HM := Lib.hid (HMU.out (5 * a + b) (by omega) (by rw [← HZE.out]; exact hm))
                  go_wp2_with fail
                  go_returns
                  rw [HM.out]
                  exact ⟨_, rfl, ⟨HMT.out, by simpa [cellsMv] using World.ownsRow_nil _ _ _ _⟩, hB.out⟩
                · have HF2 := Lib.hid (fewTo_succ hF.out (by rw [← HZE.out]; omega))
                  rw [← HSU.out] at HF2
                  by_cases hp : 0 < z
                  · have HYS := Lib.hid (mergeTo_yes (ms := ms) (a := a) (b := b) hlb (by rw [← HZE.out]; exact hp))
                    rw [← HZE.out] at HYS
                    have hLL := HLE.out (5 * a + b)
                    have RW : Hid (wr.ownsRow w.heap.size 53 3 (.slice wa L wc) L (cellsMv (mergeTo ms (5 * a + b)))) := Lib.hid (by have h := hO.out; rw [← hL] at h; exact h)
                    have HZ : Hid (w.heap.size ≤ wr.heap.size) := Lib.hid hB.out.size
                    have HL := Lib.hid hL
                    rw [← hL] at hLL
                    have hb1 := hB
                    clear hL
                    go_wp2_with (first
                      | (at_builtin; refine wpList_append_lies _ rfl _ _ _ rfl w.heap.size 53 i0 (.agg #[.int .i8 0, .int .i8 0, .int .i16 0]) 3 4 Try.underlying25 hi hz0 hz1 hz2 rfl (by omega) (.slice wa L wc) L _ rfl (RW.out.alloc _) ⟨wr.heap.size, 0, none⟩ 1 1 [.int .i8 (a : Int), .int .i8 (b : Int), .int .i16 z] rfl rfl (World.news_of_block (heap_alloc_new wr _)) (one_mv _ _ _) (by omega) (by unfold maxLen; omega) (by omega) (by simp; have := HZ.out; omega) (wr.heap.size + 1) (by simp) ?_; intro gg gcap w4 hown hgrow hat hlt2)
                      | fail)
                    have hg := grown_alM hgrow
                    have EB := Lib.hid (hb1.out.grown hg hb1.out.size (fun k hk => by have := (World.ownsRow.lt RW.out k hk).1; omega))
                    have EO : Hid (w4.ownsRow w.heap.size 53 3 (.slice (some ⟨gg, 0, none⟩) (L + 1 : Nat) gcap) (mergeTo ms (5 * a + (b + 1))).length (cellsMv (mergeTo ms (5 * a + (b + 1))))) := Lib.hid (by
                      rw [HSU.out, HYS.out, List.length_append, ← HL.out, cellsMv_app]
                      exact hown)
                    clear hown hgrow hat hlt2 hg hO
                    go_wp2_with fail
                    go_roundw
                    case rel => exact ⟨b + 1, _, by omega, by go_num, rfl, HF2, EO, EB⟩
                    case measure => simp [intOf]; omega
                  · have HYS := Lib.hid (mergeTo_not (ms := ms) (t := 5 * a + b) (by rw [← HZE.out]; exact hp))
                    clear hL
                    go_wp2_with fail
                    go_roundw
                    case rel => exact ⟨b + 1, _, by omega, by go_num, rfl, HF2, by rw [HSU.out, HYS.out]; exact hO, hB⟩
                    case measure => simp [intOf]; omega
              · as_aux_lemma =>
                have hb5 : b = 5 := by omega
                subst hb5
                have HSU := Lib.hid (show 5 * (a + 1) = 5 * a + 5 by omega)
                rw [← HSU.out] at hF hO
                go_wp2_with fail
                go_roundw
                case rel => exact ⟨a + 1, _, by omega, by go_num, rfl, hF, hO, hB⟩
                case measure => simp [intOf]; omega
          · as_aux_lemma =>
            have ha5 : a = 5 := by omega
            subst ha5
            have HM := Lib.hid (HYE.out hF.out)
            have HI := Lib.hid (HIS.out 25 (by omega) hF.out)
            go_wp2_with fail
            go_returns
            rw [HM.out]
            exact ⟨_, rfl, ⟨HI.out, hO.out⟩, hB.out⟩
end Go.Proofs.Ytphinokacggnfaa
