/-
  No statement is proved here: MergeMoves as the document's own text tells it; condition: at most 1048576 moves.
-/
import Derived.Test.YtphinokacggnfaaMgM
import Derived.Laws.OwnMore
import Derived.Deep.AppendLies
namespace Go.Proofs.Ytphinokacggnfaa
open Go.ChangeShapes Go.WideShapes Go.ChangeAt Go.RowKit

theorem row_shape {W : World} {B : Nat} {x : Value} {n : Nat} {cs : List Value} (h : W.ownsRow B 53 3 x n cs) : ∃ a c L, x = .slice a L c ∧ L = n := by
  rcases h.2 with ⟨rfl, hn⟩ | ⟨g, cap, cur, rfl, _⟩
  · exact ⟨_, _, 0, rfl, hn.symm⟩
  · exact ⟨_, _, n, rfl, rfl⟩
set_option maxRecDepth 100000 in
set_option maxHeartbeats 16000000 in
theorem specMerge_any (v : Value) (ms : List Mv) (w : World) (h : Mvs w v ms) (hn : ms.length ≤ 1048576) :
    Calls Try.prog 38 #[v] w fun e w' => ∃ r, e = .returned (.tuple #[r, .int .i64 (mergeF ms).2]) ∧ OwnMv w' w.heap.size r (mergeF ms).1 ∧ Below w.heap.size w w' := by
  obtain ⟨i0, hi, hz0, hz1, hz2⟩ := info_parts infoMove
  have HMT : Hid (∀ j, IsMv (atMv ([] : List Mv) j)) := Lib.hid fun j => by simp [atMv, IsMv]
  obtain ⟨W0, hW0⟩ : ∃ W0, W0 = w.alloc (.cells #[] 53) := ⟨_, rfl⟩
  have B0 : Hid (Below w.heap.size w W0) := Lib.hid (by rw [hW0]; go_grown)
  have O0 : Hid (W0.ownsRow w.heap.size 53 3 (.slice (some ⟨w.heap.size, 0, none⟩) 0 0) 0 []) := Lib.hid (by rw [hW0]; exact World.ownsRow_made w #[] 0 (Nat.le_refl _) (by decide) rfl)
  have HW0 := Lib.hid hW0
  clear hW0
  have HV := Lib.hid (specMvs0_any v ms W0 (h.below B0.out) hn)
  obtain ⟨va, vc, rfl⟩ := h.len
  have HP := Lib.hid h.at
  clear h
  cases hv : isMvs ms with
  | false =>
    rw [hv] at HV
    rw [mergeF_no hv]
    clear hv
    go_enter Try.func38, Try.ntmps38
    go_wp2_with fail
    rw [← HW0.out]
    refine HV.out.mono ?_
    rintro e w1 ⟨rfl, hB⟩
    have T1 := Lib.hid (B0.out.trans (hB.mono B0.out.size))
    have hgn : W0.grownBy w1 none := ⟨hB.os, hB.tape, hB.output, hB.size, fun i hi _ => hB.block i hi⟩
    clear hB
    go_wp2_with fail
    go_returns
    exact ⟨_, rfl, ⟨HMT.out, by have := O0.out.kept (w' := w1) (row := none) hgn (.inr (by simp [Value.ownBlock])); simpa [cellsMv] using this⟩, T1.out⟩
  | true =>
    rw [hv] at HV
    obtain ⟨hall, h60⟩ := isMvs_of hv
    have HIN := Lib.hid (fun a b => sumFT_in hall a b)
    have HOK := Lib.hid (allMv_get hall)
    have HMU := Lib.hid fun t ht h1 => @mergeF_much ms t hv ht h1
    have HYE := Lib.hid fun h1 => @mergeF_yes ms hv h1
    have HTO := Lib.hid fun (a b : Nat) hb => @tot_ab ms a b hb
    have HIS := Lib.hid fun t ht h => @mergeTo_is ms t ht h
    have HLE := Lib.hid fun t => @mergeTo_length ms t
    clear hv hall hn
    obtain ⟨n, hln⟩ : ∃ n, n = ms.length := ⟨_, rfl⟩
    rw [← hln] at HP HV HIN HOK h60 HTO ⊢
    clear hln
    generalize mergeF ms = MF at *
    go_enter Try.func38, Try.ntmps38
    go_wp2_with fail
    rw [← HW0.out]
    refine HV.out.mono ?_
    rintro e w1 ⟨rfl, hB⟩
    have T1 := Lib.hid (B0.out.trans (hB.mono B0.out.size))
    have OE : Hid (w1.ownsRow w.heap.size 53 3 (.slice (some ⟨w.heap.size, 0, none⟩) 0 0) (mergeTo ms 0).length (cellsMv (mergeTo ms 0))) := Lib.hid (O0.out.kept (w' := w1) (row := none) ⟨hB.os, hB.tape, hB.output, hB.size, fun i hi _ => hB.block i hi⟩ (.inr (by simp [Value.ownBlock])))
    clear hB
    go_wp2_with fail
    go_loopw [4, 5] (fun u i wr => ∃ (a : Nat) (x : Value), a ≤ 5 ∧ i = .int .i8 a ∧ x = u ∧ Hid (fewTo ms (5 * a)) ∧ Hid (wr.ownsRow w.heap.size 53 3 x (mergeTo ms (5 * a)).length (cellsMv (mergeTo ms (5 * a)))) ∧ Hid (Below w.heap.size w wr)) (fun _ i _ => 5 - (intOf i).toNat)
    case atStart => exact ⟨0, _, by omega, rfl, rfl, Lib.hid (fun s hs => by omega), OE, T1⟩
    case round =>
      clear OE T1
      obtain ⟨a, x, ha, rfl, rfl, hF, hO, hB⟩ := hrel
      by_cases hla : a < 5
      · have hai : (a : Int) < 5 := by omega
        go_wp2_with fail
        go_loopw [4, 6] (fun u i wr => ∃ (b : Nat) (x : Value), b ≤ 5 ∧ i = .int .i8 b ∧ x = u ∧ Hid (fewTo ms (5 * a + b)) ∧ Hid (wr.ownsRow w.heap.size 53 3 x (mergeTo ms (5 * a + b)).length (cellsMv (mergeTo ms (5 * a + b)))) ∧ Hid (Below w.heap.size w wr)) (fun _ i _ => 5 - (intOf i).toNat)
        case atStart => exact ⟨0, _, by omega, rfl, rfl, hF, hO, hB⟩
        case round =>
          clear hF hO hB
          obtain ⟨b, x, hb, rfl, rfl, hF, hO, hB⟩ := hrel
          by_cases hlb : b < 5
          · have hbi : (b : Int) < 5 := by omega
            go_wp2_with fail
            go_loop [7, 8] (fun s i => ∃ k : Nat, k ≤ n ∧ i = .int .i64 k ∧ s = .int .i64 (sumFT ms a b k)) (fun _ i => n - (intOf i).toNat)
            case atStart => exact ⟨0, by omega, rfl, rfl⟩
            case round =>
              obtain ⟨k, hk, rfl, rfl⟩ := hrel
              by_cases hlk : k < n
              · have hki : (k : Int) < (n : Int) := by omega
                obtain ⟨bb, off, rfl, hbb, hc⟩ := HP.out (by omega)
                have hck := hc k hlk
                have hok := HOK.out k hlk
                have hin := HIN.out a b k hk
                have hin1 := HIN.out a b (k + 1) hlk
                obtain ⟨y, hy⟩ : ∃ y, y = atMv ms k := ⟨_, rfl⟩
                rw [← hy] at hck hok
                obtain ⟨y0, y1, g⟩ := y
                obtain ⟨p, q, rfl, rfl, hp3, hq1, hq5, hpq, hg0, hg1⟩ := okMv_parts hok
                have d0 := (hB.out.cell (p := ⟨bb, _, none⟩) hbb).trans hck.1
                have d1 := (hB.out.cell (p := ⟨bb, _, none⟩) hbb).trans hck.2.1
                have d2 := (hB.out.cell (p := ⟨bb, _, none⟩) hbb).trans hck.2.2
                by_cases hpa : p = a
                · subst hpa
                  have e1 : ((p : Int) == (p : Int)) = true := by simp
                  by_cases hqb : q = b
                  · subst hqb
                    have e2 : ((q : Int) == (q : Int)) = true := by simp
                    have HS := Lib.hid (sumFT_hit (ms := ms) (k := k) hy.symm)
                    rw [HS.out] at hin1
                    clear hc hck hok hy
                    generalize sumFT ms p q k = s0 at *
                    go_wp2_with fail
                    go_round
                    case rel => exact ⟨k + 1, by omega, by go_num, by rw [HS.out]⟩
                    case measure => simp [intOf]; omega
                  · have e2 : ((q : Int) == (b : Int)) = false := by simp; omega
                    have HS := Lib.hid (sumFT_miss (ms := ms) (a := p) (b := b) (k := k) hy.symm (by omega))
                    clear hc hck hok hy
                    go_wp2_with fail
                    go_round
                    case rel => exact ⟨k + 1, by omega, by go_num, by rw [HS.out]⟩
                    case measure => simp [intOf]; omega
                · have e1 : ((p : Int) == (a : Int)) = false := by simp; omega
                  have HS := Lib.hid (sumFT_miss (ms := ms) (a := a) (b := b) (k := k) hy.symm (by omega))
                  clear hc hck hok hy
                  go_wp2_with fail
                  go_round
                  case rel => exact ⟨k + 1, by omega, by go_num, by rw [HS.out]⟩
                  case measure => simp [intOf]; omega
              · have hkn : k = n := by omega
                subst hkn
                have hz := HTO.out a b hlb
                have hin := HIN.out a b k (Nat.le_refl _)
                have HSU := Lib.hid (show 5 * a + (b + 1) = 5 * a + b + 1 by omega)
                rw [← hz] at hin ⊢
                obtain ⟨z, hze⟩ : ∃ z, z = tot ms (5 * a + b) := ⟨_, rfl⟩
                have HZE := Lib.hid hze
                rw [← hze] at hin ⊢
                clear hze hz
                obtain ⟨wa, wc, L, rfl, hL⟩ := row_shape hO.out
                by_cases hm : 5000 < z
                · have HM := Lib.hid (HMU.out (5 * a + b) (by omega) (by rw [← HZE.out]; exact hm))
                  go_wp2_with fail
                  go_returns
                  rw [HM.out]
                  exact ⟨_, rfl, ⟨HMT.out, by simpa [cellsMv] using World.ownsRow_made (base := w.heap.size) (e := 53) (size := 3) _ #[] 0 hB.out.size (by decide) rfl⟩, hB.out.alloc hB.out.size _⟩
                · have HF2 := Lib.hid (fewTo_succ hF.out (by rw [← HZE.out]; omega))
                  rw [← HSU.out] at HF2
                  by_cases hp : 0 < z
                  · have HYS := Lib.hid (mergeTo_yes (ms := ms) (a := a) (b := b) hlb (by rw [← HZE.out]; exact hp))
                    rw [← HZE.out] at HYS
                    have hLL := HLE.out (5 * a + b)
                    have RW : Hid (wr.ownsRow w.heap.size 53 3 (.slice wa L wc) L (cellsMv (mergeTo ms (5 * a + b)))) := Lib.hid (by have h := hO.out; rw [← hL] at h; exact h)
                    have HZ : Hid (w.heap.size ≤ wr.heap.size) := Lib.hid hB.out.size
                    have HL := Lib.hid hL
                    rw [← hL] at hLL
                    have hb1 := hB
                    clear hL
                    go_wp2_with (first
                      | (at_builtin; refine wpList_append_lies _ rfl _ _ _ rfl w.heap.size 53 i0 (.agg #[.int .i8 0, .int .i8 0, .int .i16 0]) 3 4 Try.underlying25 hi hz0 hz1 hz2 rfl (by omega) (.slice wa L wc) L _ rfl (RW.out.alloc _) ⟨wr.heap.size, 0, none⟩ 1 1 [.int .i8 (a : Int), .int .i8 (b : Int), .int .i16 z] rfl rfl (World.news_of_block (heap_alloc_new wr _)) (one_mv _ _ _) (by omega) (by unfold maxLen; omega) (by omega) (by simp; have := HZ.out; omega) (wr.heap.size + 1) (by simp) ?_; intro gg gcap w4 hown hgrow hat hlt2)
                      | fail)
                    have hg := grown_alM hgrow
                    have EB := Lib.hid (hb1.out.grown hg hb1.out.size (fun k hk => by have := (World.ownsRow.lt RW.out k hk).1; omega))
                    have EO : Hid (w4.ownsRow w.heap.size 53 3 (.slice (some ⟨gg, 0, none⟩) (L + 1 : Nat) gcap) (mergeTo ms (5 * a + (b + 1))).length (cellsMv (mergeTo ms (5 * a + (b + 1))))) := Lib.hid (by
                      rw [HSU.out, HYS.out, List.length_append, ← HL.out, cellsMv_app]
                      exact hown)
                    clear hown hgrow hat hlt2 hg hO
                    go_wp2_with fail
                    go_roundw
                    case rel => exact ⟨b + 1, _, by omega, by go_num, rfl, HF2, EO, EB⟩
                    case measure => simp [intOf]; omega
                  · have HYS := Lib.hid (mergeTo_not (ms := ms) (t := 5 * a + b) (by rw [← HZE.out]; exact hp))
                    clear hL
                    go_wp2_with fail
                    go_roundw
                    case rel => exact ⟨b + 1, _, by omega, by go_num, rfl, HF2, by rw [HSU.out, HYS.out]; exact hO, hB⟩
                    case measure => simp [intOf]; omega
          · have hb5 : b = 5 := by omega
            subst hb5
            have HSU := Lib.hid (show 5 * (a + 1) = 5 * a + 5 by omega)
            rw [← HSU.out] at hF hO
            go_wp2_with fail
            go_roundw
            case rel => exact ⟨a + 1, _, by omega, by go_num, rfl, hF, hO, hB⟩
            case measure => simp [intOf]; omega
      · have ha5 : a = 5 := by omega
        subst ha5
        have HM := Lib.hid (HYE.out hF.out)
        have HI := Lib.hid (HIS.out 25 (by omega) hF.out)
        go_wp2_with fail
        go_returns
        rw [HM.out]
        exact ⟨_, rfl, ⟨HI.out, hO.out⟩, hB.out⟩
end Go.Proofs.Ytphinokacggnfaa
