/-
  No statement is proved here: UndoMove as the document's own text tells it; condition: at most 1048576 moves.
-/
import Derived.Test.YtphinokacggnfaaUnM
import Derived.Laws.OwnMore
import Derived.Deep.RegionLaw
import Derived.Deep.AppendLies
namespace Go.Proofs.Ytphinokacggnfaa
open Go.ChangeShapes Go.WideShapes Go.ChangeAt Go.RowKit

set_option maxRecDepth 100000 in
set_option maxHeartbeats 8000000 in
theorem specUndo_any (v : Value) (ms : List Mv) (x : Int) (w : World) (h : ∃ B, OwnMv w B v ms) (hn : ms.length ≤ 1048576) :
    Calls Try.prog 24 #[v, .int .i64 x] w fun e w' => ∃ r, e = .returned (.tuple #[r, .int .i64 (undoF ms x).2]) ∧ OwnMv w' w.heap.size r (undoF ms x).1 ∧ Below w.heap.size w w' := by
  obtain ⟨i0, hi, hz0, hz1, hz2⟩ := info_parts infoMove
  obtain ⟨B, h⟩ := h
  have HV := Lib.hid (specMvs0_any v ms w h.rel hn)
  have HMT : Hid (∀ j, IsMv (atMv ([] : List Mv) j)) := Lib.hid fun j => by simp [atMv, IsMv]
  obtain ⟨a0, c0, rfl⟩ := h.rel.len
  have HH := Lib.hid h
  clear h
  cases h1 : isMvs ms with
  | false =>
    rw [h1] at HV
    rw [undoF_no h1]
    clear h1
    go_enter Try.func24, Try.ntmps24
    go_wp2_with fail
    refine HV.out.mono ?_
    rintro e w1 ⟨rfl, hB⟩
    have T1 := Lib.hid hB
    clear hB
    go_wp2_with fail
    go_returns
    exact ⟨_, rfl, ⟨HMT.out, by simpa [cellsMv] using World.ownsRow_made (base := w.heap.size) (e := 53) (size := 3) w1 #[] 0 T1.out.size (by decide) rfl⟩, T1.out.alloc T1.out.size _⟩
  | true =>
    rw [h1] at HV
    have HI := Lib.hid fun wx => in_any x 0 ((ms.length : Int) - 1) wx
    by_cases hx : x < 0 ∨ (ms.length : Int) ≤ x
    · rw [undoF_out h1 hx]
      rw [inB_mkno (show x < 0 ∨ (ms.length : Int) - 1 < x by omega)] at HI
      clear h1 hx
      generalize ms.length = n at *
      go_enter Try.func24, Try.ntmps24
      go_wp2_with fail
      refine HV.out.mono ?_
      rintro e w1 ⟨rfl, hB⟩
      have T1 := Lib.hid hB
      clear hB
      go_wp2_with fail
      refine (HI.out _).mono ?_
      rintro e w2 ⟨rfl, rfl⟩
      go_wp2_with fail
      go_returns
      exact ⟨_, rfl, ⟨HMT.out, by simpa [cellsMv] using World.ownsRow_made (base := w.heap.size) (e := 53) (size := 3) w1 #[] 0 T1.out.size (by decide) rfl⟩, T1.out.alloc T1.out.size _⟩
    · obtain ⟨a, rfl⟩ : ∃ a : Nat, x = a := ⟨x.toNat, by omega⟩
      have ha : a < ms.length := by omega
      rw [undoF_yes h1 ha]
      rw [inB_mk (show 0 ≤ (a : Int) ∧ (a : Int) ≤ (ms.length : Int) - 1 by omega)] at HI
      obtain ⟨b, cap, e, hb, hnc, hcm, hP⟩ := own_shape HH.out (by omega)
      simp only [Value.slice.injEq, true_and] at e
      obtain ⟨rfl, e2⟩ := e
      subst e2
      have HIS := Lib.hid (undoL_is HH.out.1 a)
      have HLN := Lib.hid (undoL_length ha)
      have HP1 := Lib.hid (hP.take a)
      have HP2 := Lib.hid (hP.drop (a := a + 1) (by omega))
      have HL1 := Lib.hid (show (cellsMv (ms.take a)).length = a * 3 by rw [cellsMv_length, List.length_take, Nat.min_eq_left (by omega)])
      have HL2 := Lib.hid (show (cellsMv (ms.drop (a + 1))).length = (ms.length - (a + 1)) * 3 by rw [cellsMv_length, List.length_drop])
      have HCA := Lib.hid (show cellsMv (undoL ms a) = cellsMv (ms.take a) ++ cellsMv (ms.drop (a + 1)) from cellsMv_app _ _)
      have HO1 := Lib.hid (cellsMv_one (ms.take a))
      have HO2 := Lib.hid (cellsMv_one (ms.drop (a + 1)))
      clear hx h1 hP HH
      unfold maxLen at hcm
      obtain ⟨n, hln⟩ : ∃ n, n = ms.length := ⟨_, rfl⟩
      rw [← hln] at HV HI ha hnc hn HLN HL2 ⊢
      clear hln
      have k1 : (0 : Int) ≤ (a : Int) := by omega
      have k2 : (a : Int) ≤ (c0 : Int) := by omega
      have k3 : (a : Int) + 1 ≤ (n : Int) := by omega
      have k4 : (n : Int) ≤ (c0 : Int) := by omega
      go_enter Try.func24, Try.ntmps24
      go_wp2_with fail
      refine HV.out.mono ?_
      rintro e w1 ⟨rfl, hB⟩
      have T1 := Lib.hid hB
      have P1 := Lib.hid (HP1.out.below hb hB)
      have P2 := Lib.hid (HP2.out.below hb hB)
      clear hB
      go_wp2_with fail
      refine (HI.out _).mono ?_
      rintro e w2 ⟨rfl, rfl⟩
      have B2 : Hid (Below w1.heap.size w1 (w1.alloc (.cells #[] 53)).drew) := Lib.hid (((Below.refl _ _).alloc (Nat.le_refl _) _).drew)
      have OE : Hid ((w1.alloc (.cells #[] 53)).drew.ownsRow w1.heap.size 53 3 (.slice (some ⟨w1.heap.size, 0, none⟩) 0 0) 0 []) := Lib.hid (World.ownsRow_made (base := w1.heap.size) (e := 53) (size := 3) w1 #[] 0 (Nat.le_refl _) (by decide) rfl)
      have HB1 := Lib.hid (show b < w1.heap.size from Nat.lt_of_lt_of_le hb T1.out.size)
      have PA := Lib.hid (P1.out.below HB1.out B2.out)
      have PB := Lib.hid (P2.out.below HB1.out B2.out)
      have HZ := Lib.hid T1.out.size
      obtain ⟨ad2, had2⟩ : ∃ ad2 : Addr, ad2 = (if c0 = a + 1 then ⟨b, 0, none⟩ else ⟨b, (a + 1) * 3, none⟩) := ⟨_, rfl⟩
      have HQ : Hid (∀ W, Below w1.heap.size w1 W → ∀ j u, (cellsMv (ms.drop (a + 1)))[j]? = some u → W.cell? (ad2.add j) = some u) := Lib.hid (by
        intro W hBW j u hu
        by_cases hc : c0 = a + 1
        · have : (cellsMv (ms.drop (a + 1))).length = 0 := by rw [HL2.out]; omega
          have := (List.getElem?_eq_some_iff.1 hu).1
          omega
        · rw [had2, if_neg hc]
          have := P2.out.below HB1.out hBW
          rw [Nat.zero_add] at this
          exact this j u hu)
      have hw : IntKind.i64.wrap ((a : Int) + 1) = (a : Int) + 1 := by simp [IntKind.wrap, IntKind.bits, IntKind.signed]; omega
      have ht : ((a : Int) + 1).toNat = a + 1 := by omega
      have k5 : (0 : Int) ≤ (a : Int) + 1 := by omega
      by_cases hc : c0 = a + 1
      · rw [if_pos hc] at had2
        subst had2
        obtain rfl : n = a + 1 := by omega
        subst hc
        have k6 : (a : Int) ≤ (a : Int) + 1 := by omega
        go_wp2_with fail
        go_region_law (first
          | (rw [if_pos (by simp [Region.wanted])]; refine wp_append_own _ (.tmp 17) (.tmp 20) 25 (by rfl) w1.heap.size 53 i0 (.agg #[.int .i8 0, .int .i8 0, .int .i16 0]) 3 4 Try.underlying25 hi hz0 hz1 hz2 (by rfl) (by omega) (.slice (some ⟨w1.heap.size, 0, none⟩) 0 0) 0 [] (by rfl) OE.out ⟨b, 0, none⟩ a (a + 1) (cellsMv (ms.take a)) (by rfl) HL1.out PA.out HO1.out (by unfold maxLen; omega) (by omega) (by simp) ?_; intro v2 w2 hown2 hgrow2 _)
          | (rw [if_pos (by simp [Region.wanted])]; refine wp_append_own _ (.tmp 21) (.tmp 25) 25 (by rfl) w1.heap.size 53 i0 (.agg #[.int .i8 0, .int .i8 0, .int .i16 0]) 3 4 Try.underlying25 hi hz0 hz1 hz2 (by rfl) (by omega) v2 (0 + a) ([] ++ cellsMv (ms.take a)) (by rfl) hown2 _ 0 0 (cellsMv (ms.drop (a + 1))) (by rfl) (by rw [HL2.out]; simp) (HQ.out _ (B2.out.grown hgrow2 (by simp) (fun k hk => (by have hk' : w1.heap.size = k := Option.some.inj hk; omega)))) HO2.out (by unfold maxLen; omega) (by omega) (by have := hgrow2.size; simp at this; omega) ?_; intro v3 w3 hown3 hgrow3 _))
        all_goals
          have G1 := hgrow2
          have hr2 : ∀ k, v2.ownBlock = some k → w1.heap.size ≤ k := fun k hk => (World.ownsRow.lt hown2 k hk).1
          have E := Lib.hid (((T1.out.trans (B2.out.mono T1.out.size)).grown hgrow2 (by have := T1.out.size; simp; omega) (fun k hk => by have hk' : w1.heap.size = k := Option.some.inj hk; have := T1.out.size; omega)).grown hgrow3 (by have := hgrow2.size; have := T1.out.size; simp at *; omega) (fun k hk => by have := hr2 k hk; have := T1.out.size; omega))
          have O3 := Lib.hid hown3
          clear hown2 hgrow2 hown3 hgrow3 G1 hr2
          go_wp2_with fail
          go_returns
          refine ⟨_, rfl, ⟨HIS.out, ?_⟩, E.out⟩
          rw [HLN.out, HCA.out]
          have h := O3.out
          rw [List.nil_append] at h
          rw [show 0 + a + 0 = (a + 1) - 1 by omega] at h
          exact ⟨h.1, h.2.imp id fun ⟨g, cap, cur, a', b', c'⟩ => ⟨g, cap, cur, a', Nat.le_trans HZ.out b', c'⟩⟩
      · rw [if_neg hc] at had2
        subst had2
        go_wp2_with fail
        go_region_law (first
          | (rw [if_pos (by simp [Region.wanted])]; refine wp_append_own _ (.tmp 17) (.tmp 20) 25 (by rfl) w1.heap.size 53 i0 (.agg #[.int .i8 0, .int .i8 0, .int .i16 0]) 3 4 Try.underlying25 hi hz0 hz1 hz2 (by rfl) (by omega) (.slice (some ⟨w1.heap.size, 0, none⟩) 0 0) 0 [] (by rfl) OE.out ⟨b, 0, none⟩ a c0 (cellsMv (ms.take a)) (by rfl) HL1.out PA.out HO1.out (by unfold maxLen; omega) (by omega) (by simp) ?_; intro v2 w2 hown2 hgrow2 _)
          | (rw [if_pos (by simp [Region.wanted])]; refine wp_append_own _ (.tmp 21) (.tmp 25) 25 (by rfl) w1.heap.size 53 i0 (.agg #[.int .i8 0, .int .i8 0, .int .i16 0]) 3 4 Try.underlying25 hi hz0 hz1 hz2 (by rfl) (by omega) v2 (0 + a) ([] ++ cellsMv (ms.take a)) (by rfl) hown2 _ (n - (a + 1)) (c0 - (a + 1)) (cellsMv (ms.drop (a + 1))) (by rfl) HL2.out (HQ.out _ (B2.out.grown hgrow2 (by simp) (fun k hk => (by have hk' : w1.heap.size = k := Option.some.inj hk; omega)))) HO2.out (by unfold maxLen; omega) (by omega) (by have := hgrow2.size; simp at this; omega) ?_; intro v3 w3 hown3 hgrow3 _))
        all_goals
          have G1 := hgrow2
          have hr2 : ∀ k, v2.ownBlock = some k → w1.heap.size ≤ k := fun k hk => (World.ownsRow.lt hown2 k hk).1
          have E := Lib.hid (((T1.out.trans (B2.out.mono T1.out.size)).grown hgrow2 (by have := T1.out.size; simp; omega) (fun k hk => by have hk' : w1.heap.size = k := Option.some.inj hk; have := T1.out.size; omega)).grown hgrow3 (by have := hgrow2.size; have := T1.out.size; simp at *; omega) (fun k hk => by have := hr2 k hk; have := T1.out.size; omega))
          have O3 := Lib.hid hown3
          clear hown2 hgrow2 hown3 hgrow3 G1 hr2
          go_wp2_with fail
          go_returns
          refine ⟨_, rfl, ⟨HIS.out, ?_⟩, E.out⟩
          rw [HLN.out, HCA.out]
          have h := O3.out
          rw [List.nil_append] at h
          rw [show 0 + a + (n - (a + 1)) = n - 1 by omega] at h
          exact ⟨h.1, h.2.imp id fun ⟨g, cap, cur, a', b', c'⟩ => ⟨g, cap, cur, a', Nat.le_trans HZ.out b', c'⟩⟩
end Go.Proofs.Ytphinokacggnfaa
