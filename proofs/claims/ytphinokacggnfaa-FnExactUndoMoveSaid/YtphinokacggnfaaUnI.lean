/-
  No statement is proved here: UndoMove in the program; condition: at most 1048576 moves.
-/
import Derived.Test.YtphinokacggnfaaUnC
import Derived.Deep.RegionHeld3
import Derived.StillTailTactics
namespace Go.Proofs.Ytphinokacggnfaa
open Go.ChangeShapes Go.WideShapes Go.ChangeAt Go.RowKit

set_option maxRecDepth 100000 in
set_option maxHeartbeats 8000000 in
theorem implUndo_any (v : Value) (ms : List Mv) (x : Int) (w : World) (h : ∃ B, OwnMv w B v ms) (hn : ms.length ≤ 1048576) :
    Calls Try.prog 25 #[v, .int .i64 x] w fun e w' => ∃ r, e = .returned (.tuple #[r, .int .i64 (undoF ms x).2]) ∧ OwnMv w' w.heap.size r (undoF ms x).1 ∧ Below w.heap.size w w' := by
  obtain ⟨B, h⟩ := h
  have HV := Lib.hid (implMvs_any v ms w h.rel hn)
  have HMT : Hid (∀ j, IsMv (atMv ([] : List Mv) j)) := Lib.hid fun j => by simp [atMv, IsMv]
  obtain ⟨a0, c0, rfl⟩ := h.rel.len
  have HH := Lib.hid h
  clear h
  cases h1 : isMvs ms with
  | false =>
    rw [h1] at HV
    rw [undoF_no h1]
    clear h1
    go_enter Try.func25, Try.ntmps25
    go_wp2_with fail
    refine HV.out.mono ?_
    rintro e w1 ⟨rfl, hB⟩
    have T1 := Lib.hid hB
    clear hB
    go_wp2_with fail
    go_returns
    exact ⟨_, rfl, ⟨HMT.out, by simpa [cellsMv] using World.ownsRow_nil _ _ _ _⟩, T1.out⟩
  | true =>
    rw [h1] at HV
    by_cases hx : x < 0 ∨ (ms.length : Int) ≤ x
    · rw [undoF_out h1 hx]
      clear h1
      obtain ⟨n, hln⟩ : ∃ n, n = ms.length := ⟨_, rfl⟩
      rw [← hln] at HV hx hn ⊢
      clear hln
      by_cases h0 : x < 0
      · go_enter Try.func25, Try.ntmps25
        go_wp2_with fail
        refine HV.out.mono ?_
        rintro e w1 ⟨rfl, hB⟩
        have T1 := Lib.hid hB
        clear hB
        go_wp2_with fail
        go_returns
        exact ⟨_, rfl, ⟨HMT.out, by simpa [cellsMv] using World.ownsRow_nil _ _ _ _⟩, T1.out⟩
      · have h2 : (n : Int) ≤ x := by omega
        clear hx
        go_enter Try.func25, Try.ntmps25
        go_wp2_with fail
        refine HV.out.mono ?_
        rintro e w1 ⟨rfl, hB⟩
        have T1 := Lib.hid hB
        clear hB
        go_wp2_with fail
        go_returns
        exact ⟨_, rfl, ⟨HMT.out, by simpa [cellsMv] using World.ownsRow_nil _ _ _ _⟩, T1.out⟩
    · obtain ⟨a, rfl⟩ : ∃ a : Nat, x = a := ⟨x.toNat, by omega⟩
      have ha : a < ms.length := by omega
      rw [undoF_yes h1 ha]
      obtain ⟨b, cap, e, hb, hnc, hcm, hP⟩ := own_shape HH.out (by omega)
      simp only [Value.slice.injEq, true_and] at e
      obtain ⟨rfl, e2⟩ := e
      subst e2
      have HIS := Lib.hid (undoL_is HH.out.1 a)
      have HLN := Lib.hid (undoL_length ha)
      have HP1 := Lib.hid (hP.take a)
      have HP2 := Lib.hid (hP.drop (a := a + 1) (by omega))
      have HT1 := Lib.hid (show (ms.take a).length = a by rw [List.length_take]; omega)
      have HT2 := Lib.hid (show (ms.drop (a + 1)).length = ms.length - (a + 1) from List.length_drop)
      clear hx h1 hP HH
      unfold maxLen at hcm
      obtain ⟨n, hln⟩ : ∃ n, n = ms.length := ⟨_, rfl⟩
      rw [← hln] at HV ha hnc hn HLN HT2 ⊢
      clear hln
      have k1 : (0 : Int) ≤ (a : Int) := by omega
      have k1' : ¬ ((a : Int) < 0) := by omega
      have k2 : (a : Int) ≤ (c0 : Int) := by omega
      have k3 : (a : Int) + 1 ≤ (n : Int) := by omega
      have k3' : ¬ ((n : Int) ≤ (a : Int)) := by omega
      have k4 : (n : Int) ≤ (c0 : Int) := by omega
      have hw : IntKind.i64.wrap ((a : Int) + 1) = (a : Int) + 1 := by simp [IntKind.wrap, IntKind.bits, IntKind.signed]; omega
      have ht : ((a : Int) + 1).toNat = a + 1 := by omega
      have k5 : (0 : Int) ≤ (a : Int) + 1 := by omega
      obtain ⟨ad2, had2⟩ : ∃ ad2 : Addr, ad2 = (if c0 = a + 1 then ⟨b, 0, none⟩ else ⟨b, (a + 1) * 3, none⟩) := ⟨_, rfl⟩
      have HQ : Hid (∀ W, Below w.heap.size w W → ∀ j u, (cellsMv (ms.drop (a + 1)))[j]? = some u → W.cell? (ad2.add j) = some u) := Lib.hid (by
        intro W hBW j u hu
        by_cases hc : c0 = a + 1
        · have : (cellsMv (ms.drop (a + 1))).length = 0 := by rw [cellsMv_length, HT2.out]; omega
          have := (List.getElem?_eq_some_iff.1 hu).1
          omega
        · rw [had2, if_neg hc]
          have := HP2.out.below hb hBW
          rw [Nat.zero_add] at this
          exact this j u hu)
      have HQ1 : Hid (∀ W, Below w.heap.size w W → ∀ j u, (cellsMv (ms.take a))[j]? = some u → W.cell? ((⟨b, 0, none⟩ : Addr).add j) = some u) := Lib.hid fun W hBW => HP1.out.below hb hBW
      by_cases hc : c0 = a + 1
      · rw [if_pos hc] at had2
        subst had2
        obtain rfl : n = a + 1 := by omega
        subst hc
        have k6 : (a : Int) ≤ (a : Int) + 1 := by omega
        go_enter Try.func25, Try.ntmps25
        go_wp2_with fail
        refine HV.out.mono ?_
        rintro e w1 ⟨rfl, hB⟩
        have T1 := Lib.hid hB
        clear hB
        go_wp2_with fail
        go_still_tail 7, (by kernel_rfl)
        change wpList _ _ _ _ _ w1.drew
        have HC := Lib.hid (concatMv_any (ms.take a) (ms.drop (a + 1)) ⟨b, 0, none⟩ ⟨b, 0, none⟩ a 0 (a + 1) 0 w1.heap.size (w1.alloc (.cells #[.slice (some ⟨b, 0, none⟩) a (a + 1), .slice (some ⟨b, 0, none⟩) 0 0] 25)).drew HT1.out.symm (by rw [HT2.out]; omega) (by simp [go_sem]) (by simp [go_sem]) (by simp) (fun W hW => HQ1.out W ((T1.out.trans ((((Below.refl _ w1).alloc (Nat.le_refl _) _).drew).mono T1.out.size)).trans (hW.mono (by have := T1.out.size; simp; omega)))) (fun W hW => HQ.out W ((T1.out.trans ((((Below.refl _ w1).alloc (Nat.le_refl _) _).drew).mono T1.out.size)).trans (hW.mono (by have := T1.out.size; simp; omega)))) (by omega))
        have HZ := Lib.hid T1.out.size
        have TW := Lib.hid (T1.out.trans ((((Below.refl _ w1).alloc (Nat.le_refl _) (.cells #[.slice (some ⟨b, 0, none⟩) a (a + 1), .slice (some ⟨b, 0, none⟩) 0 0] 25)).drew).mono T1.out.size))
        go_wp2_with fail
        refine HC.out.mono ?_
        rintro e w3 ⟨r, rfl, own, hB⟩
        have T3 := Lib.hid (TW.out.trans (hB.mono TW.out.size))
        have OW := Lib.hid own
        have HZ2 := Lib.hid TW.out.size
        clear own hB
        go_wp2_with fail
        go_returns
        refine ⟨_, rfl, ⟨HIS.out, ?_⟩, T3.out⟩
        rw [HLN.out]
        have h := OW.out
        rw [show a + 0 = (a + 1) - 1 by omega] at h
        exact ⟨h.1, h.2.imp id fun ⟨g, cap, cur, a', b', c'⟩ => ⟨g, cap, cur, a', Nat.le_trans HZ2.out b', c'⟩⟩
      · rw [if_neg hc] at had2
        subst had2
        go_enter Try.func25, Try.ntmps25
        go_wp2_with fail
        refine HV.out.mono ?_
        rintro e w1 ⟨rfl, hB⟩
        have T1 := Lib.hid hB
        clear hB
        go_wp2_with fail
        go_still_tail 7, (by kernel_rfl)
        change wpList _ _ _ _ _ w1.drew
        have HC := Lib.hid (concatMv_any (ms.take a) (ms.drop (a + 1)) ⟨b, 0, none⟩ ⟨b, (a + 1) * 3, none⟩ a (n - (a + 1)) c0 (c0 - (a + 1)) w1.heap.size (w1.alloc (.cells #[.slice (some ⟨b, 0, none⟩) a c0, .slice (some ⟨b, (a + 1) * 3, none⟩) (n - (a + 1)) (c0 - (a + 1))] 25)).drew HT1.out.symm (by rw [HT2.out]) (by simp [go_sem]) (by simp [go_sem]) (by simp) (fun W hW => HQ1.out W ((T1.out.trans ((((Below.refl _ w1).alloc (Nat.le_refl _) _).drew).mono T1.out.size)).trans (hW.mono (by have := T1.out.size; simp; omega)))) (fun W hW => HQ.out W ((T1.out.trans ((((Below.refl _ w1).alloc (Nat.le_refl _) _).drew).mono T1.out.size)).trans (hW.mono (by have := T1.out.size; simp; omega)))) (by omega))
        have HZ := Lib.hid T1.out.size
        have TW := Lib.hid (T1.out.trans ((((Below.refl _ w1).alloc (Nat.le_refl _) (.cells #[.slice (some ⟨b, 0, none⟩) a c0, .slice (some ⟨b, (a + 1) * 3, none⟩) (n - (a + 1)) (c0 - (a + 1))] 25)).drew).mono T1.out.size))
        go_wp2_with fail
        refine HC.out.mono ?_
        rintro e w3 ⟨r, rfl, own, hB⟩
        have T3 := Lib.hid (TW.out.trans (hB.mono TW.out.size))
        have OW := Lib.hid own
        have HZ2 := Lib.hid TW.out.size
        clear own hB
        go_wp2_with fail
        go_returns
        refine ⟨_, rfl, ⟨HIS.out, ?_⟩, T3.out⟩
        rw [HLN.out]
        have h := OW.out
        rw [show a + (n - (a + 1)) = n - 1 by omega] at h
        exact ⟨h.1, h.2.imp id fun ⟨g, cap, cur, a', b', c'⟩ => ⟨g, cap, cur, a', Nat.le_trans HZ2.out b', c'⟩⟩
end Go.Proofs.Ytphinokacggnfaa
