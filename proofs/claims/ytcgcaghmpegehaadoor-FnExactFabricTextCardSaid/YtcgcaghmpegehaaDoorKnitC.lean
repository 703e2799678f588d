/-
  No statement is proved here: whether the program finds that a row can be knitted; condition: rows of at most 1048576 bytes.
-/
import Derived.Test.YtcgcaghmpegehaaDoorKnitO
namespace Go.Proofs.YtcgcaghmpegehaaDoor
open Go.ChangeShapes Go.WideShapes Go.ChangeAt Go.RowKit

set_option maxRecDepth 100000 in
set_option maxHeartbeats 8000000 in
theorem canTake_any (c : Int) (ra : Option Addr) (rc n : Nat) (v : Value) (zs : List Int) (s : ByteArray) (w : World) (h : Ints w v zs) (hl : zs.length = n + 1) (hn : n ≤ 1048576) (hz : 0 ≤ zs.getD n 0) (hs : s.size ≤ 1048576) :
    Calls Tryd.prog 30 #[.agg #[.int .i64 c, .slice ra n rc, v], .string s] w fun e w' => e = .returned (.bool (canB n (zs.getD n 0) s)) ∧ Below w.heap.size w w' := by
  have HN := Lib.hid fun h => @canB_no n (zs.getD n 0) s h
  have HY := Lib.hid fun h => @canB_mk n (zs.getD n 0) s h
  have HW := Lib.hid fun wx (hB : Below w.heap.size w wx) => width_any c ra rc n v zs wx (h.below hB) hl hn
  have HA := Lib.hid fun wx => areSt_any s wx
  have HT := Lib.hid fun wx (ha : allSt s = true) => takes_total s wx ha hs
  have HM := Lib.hid fun wx (ha : allSt s = true) => makes_total s wx ha hs
  have X0 := Lib.hid (hb3_made w (.int .i64 c) (.slice ra n rc) v 46)
  generalize canB n (zs.getD n 0) s = R at *
  obtain ⟨cp, b, rfl⟩ : ∃ cp b, v = .slice b (n + 1 : Nat) cp := by
    obtain ⟨a1, cp, e⟩ := h.len
    rw [hl] at e
    exact ⟨cp, a1, e⟩
  generalize zs.getD n 0 = W at *
  clear h hl hs
  by_cases h1 : n < 30
  · have d1 : decide ((n : Int) < 30) = true := decide_eq_true (by omega)
    by_cases h2 : W = 0
    · have HR := Lib.hid (HN.out (.inr (.inl h2)))
      clear HN HY HA HT HM hz
      subst h2
      go_enter Tryd.func30, Tryd.ntmps30
      go_wp2_with fail
      have Y1 := hb3_id (hb3_drew X0.out)
      first
        | (go_region_with (first | (go_at_call 38; refine (HW.out _ (hb3_below (w := w) (b := w.heap.size) (by assumption))).mono ?_; rintro e w' ⟨rfl, hB⟩; have Y2 := hb3_id (hb3_next (by assumption) hB); obtain ⟨k0, k1, k2, _, _⟩ := hb3_raw Y2) | fail))
        | fail
      all_goals
        have HE := Lib.hid (hb3_below (w := w) (b := w.heap.size) (by assumption))
        go_wp2
        go_ret
        exact ⟨ret_bool HR.out.symm, HE.out⟩
    · have d2 : decide (W > 0) = true := decide_eq_true (by omega)
      cases ha : allSt s with
      | false =>
        have HR := Lib.hid (HN.out (.inl ha))
        have HA2 := HA
        rw [ha] at HA2
        clear HN HY HA HT HM hz ha h1 h2
        go_enter Tryd.func30, Tryd.ntmps30
        go_wp2_with fail
        have Y1 := hb3_id (hb3_drew X0.out)
        first
          | (go_region_with (first | (go_at_call 38; refine (HW.out _ (hb3_below (w := w) (b := w.heap.size) (by assumption))).mono ?_; rintro e w' ⟨rfl, hB⟩; have Y2 := hb3_id (hb3_next (by assumption) hB); obtain ⟨k0, k1, k2, _, _⟩ := hb3_raw Y2) | (go_at_call 39; refine (HA2.out _).mono ?_; rintro e w' ⟨rfl, hB⟩; have Y2 := hb3_id (hb3_next (by assumption) hB); obtain ⟨k0, k1, k2, _, _⟩ := hb3_raw Y2) | fail))
          | fail
        all_goals
          have HE := Lib.hid (hb3_below (w := w) (b := w.heap.size) (by assumption))
          go_wp2
          go_ret
          exact ⟨ret_bool HR.out.symm, HE.out⟩
      | true =>
        have HA2 := HA
        rw [ha] at HA2
        have HT2 := Lib.hid fun wx => HT.out wx ha
        have HM2 := Lib.hid fun wx => HM.out wx ha
        generalize takesF s = T at *
        generalize makesF s = M at *
        by_cases h3 : T = W
        · have g3 : (T == W) = true := by rw [beq_iff_eq]; exact h3
          by_cases h4 : M ≤ 60
          · have d4 : decide (M ≤ 60) = true := decide_eq_true h4
            have HR := Lib.hid (HY.out ⟨ha, by omega, h3, h4, by omega⟩)
            clear HN HY HA HT HM hz ha h3 h2 h1
            go_enter Tryd.func30, Tryd.ntmps30
            go_wp2_with fail
            first
              | (go_region_held3 (fun w' => w'.cell? ⟨w.heap.size, 0, none⟩ = some (.int .i64 c) ∧ w'.cell? ⟨w.heap.size, 1, none⟩ = some (.slice ra n rc) ∧ w'.cell? ⟨w.heap.size, 2, none⟩ = some (.slice b (n + 1 : Nat) cp) ∧ Below w.heap.size w w' ∧ w.heap.size < w'.heap.size) (first | assumption | exact hb3_drew X0.out | (refine hb3_next ?_ hB; assumption)) (first | (go_at_call 38; refine (HW.out _ (hb3_id (w := w) (b := w.heap.size) (by assumption)).2.2.2.1).mono ?_; rintro e w' ⟨rfl, hB⟩) | (go_at_call 39; refine (HA2.out _).mono ?_; rintro e w' ⟨rfl, hB⟩) | (go_at_call 31; first | (with_reducible refine (HT2.out _).mono ?_; rintro e w' ⟨rfl, hB⟩) | (with_reducible refine (HM2.out _).mono ?_; rintro e w' ⟨rfl, hB⟩)) | fail))
              | fail
            all_goals
              have HE := Lib.hid (hb3_id (w := w) (b := w.heap.size) (by assumption))
              go_wp2
              go_ret
              exact ⟨ret_bool HR.out.symm, HE.out.2.2.2.1⟩
          · have d4 : decide (M ≤ 60) = false := decide_eq_false h4
            have HR := Lib.hid (HN.out (.inr (.inr (.inr (.inl (by omega))))))
            clear HN HY HA HT HM hz ha h3 h2 h1
            go_enter Tryd.func30, Tryd.ntmps30
            go_wp2_with fail
            first
              | (go_region_held3 (fun w' => w'.cell? ⟨w.heap.size, 0, none⟩ = some (.int .i64 c) ∧ w'.cell? ⟨w.heap.size, 1, none⟩ = some (.slice ra n rc) ∧ w'.cell? ⟨w.heap.size, 2, none⟩ = some (.slice b (n + 1 : Nat) cp) ∧ Below w.heap.size w w' ∧ w.heap.size < w'.heap.size) (first | assumption | exact hb3_drew X0.out | (refine hb3_next ?_ hB; assumption)) (first | (go_at_call 38; refine (HW.out _ (hb3_id (w := w) (b := w.heap.size) (by assumption)).2.2.2.1).mono ?_; rintro e w' ⟨rfl, hB⟩) | (go_at_call 39; refine (HA2.out _).mono ?_; rintro e w' ⟨rfl, hB⟩) | (go_at_call 31; first | (with_reducible refine (HT2.out _).mono ?_; rintro e w' ⟨rfl, hB⟩) | (with_reducible refine (HM2.out _).mono ?_; rintro e w' ⟨rfl, hB⟩)) | fail))
              | fail
            all_goals
              have HE := Lib.hid (hb3_id (w := w) (b := w.heap.size) (by assumption))
              go_wp2
              go_ret
              exact ⟨ret_bool HR.out.symm, HE.out.2.2.2.1⟩
        · have g3 : (T == W) = false := by rw [beq_eq_false_iff_ne]; exact h3
          have HR := Lib.hid (HN.out (.inr (.inr (.inl h3))))
          clear HN HY HA HT HM hz ha h3 h2 h1
          go_enter Tryd.func30, Tryd.ntmps30
          go_wp2_with fail
          have Y1 := hb3_id (hb3_drew X0.out)
          first
            | (go_region_with (first | (go_at_call 38; refine (HW.out _ (hb3_below (w := w) (b := w.heap.size) (by assumption))).mono ?_; rintro e w' ⟨rfl, hB⟩; have Y2 := hb3_id (hb3_next (by assumption) hB); obtain ⟨k0, k1, k2, _, _⟩ := hb3_raw Y2) | (go_at_call 39; refine (HA2.out _).mono ?_; rintro e w' ⟨rfl, hB⟩; have Y2 := hb3_id (hb3_next (by assumption) hB); obtain ⟨k0, k1, k2, _, _⟩ := hb3_raw Y2) | (go_at_call 31; first | (with_reducible refine (HT2.out _).mono ?_; rintro e w' ⟨rfl, hB⟩; have Y2 := hb3_id (hb3_next (by assumption) hB); obtain ⟨k0, k1, k2, _, _⟩ := hb3_raw Y2) | (with_reducible refine (HM2.out _).mono ?_; rintro e w' ⟨rfl, hB⟩; have Y2 := hb3_id (hb3_next (by assumption) hB); obtain ⟨k0, k1, k2, _, _⟩ := hb3_raw Y2)) | fail))
            | fail
          all_goals
            have HE := Lib.hid (hb3_below (w := w) (b := w.heap.size) (by assumption))
            go_wp2
            go_ret
            exact ⟨ret_bool HR.out.symm, HE.out⟩
  · have d1 : decide ((n : Int) < 30) = false := decide_eq_false (by omega)
    have HR := Lib.hid (HN.out (.inr (.inr (.inr (.inr (by omega))))))
    clear HN HY HA HT HM hz HW
    go_enter Tryd.func30, Tryd.ntmps30
    go_wp2_with fail
    have Y1 := hb3_id (hb3_drew X0.out)
    first
      | (go_region_with (first | fail | fail))
      | fail
    all_goals
      have HE := Lib.hid (hb3_below (w := w) (b := w.heap.size) (by assumption))
      go_wp2
      go_ret
      exact ⟨ret_bool HR.out.symm, HE.out⟩
end Go.Proofs.YtcgcaghmpegehaaDoor
