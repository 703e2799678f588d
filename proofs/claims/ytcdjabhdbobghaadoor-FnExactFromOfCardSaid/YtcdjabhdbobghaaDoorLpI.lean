/-
  No statement is proved here: whether a piece has a loop, in the program; conditions as stated.
-/
import Derived.Test.YtcdjabhdbobghaaDoorStp
namespace Go.Proofs.YtcdjabhdbobghaaDoor
open Go.ChangeShapes Go.WideShapes Go.ChangeAt Go.RowKit

set_option maxRecDepth 100000 in
set_option maxHeartbeats 8000000 in
theorem implHas_any (c : Int) (L : List ByteArray) (ra wa : Option Addr) (rc n m wc : Nat) (r a : Int) (w : World) (hok : okF c L = true) (hn : n = L.length) (hi : Ints w (.slice wa m wc) (wdsTo c L (L.length + 1))) (hr : -32768 ≤ r ∧ r ≤ 32767) (ha : -32768 ≤ a ∧ a ≤ 32767) :
    Calls Tryd.prog 26 #[.agg #[.int .i64 c, .slice ra n rc, .slice wa m wc], .agg #[.int .i16 r, .int .i16 a]] w fun e w' => e = .returned (.bool (isLoop c L r a)) ∧ Below w.heap.size w w' := by
  obtain ⟨hcb, hfine⟩ := okF_parts hok
  have hlen := fine_len hfine
  obtain ⟨hr1, hr2⟩ := hr
  obtain ⟨ha1, ha2⟩ := ha
  have T0 : Hid (Below w.heap.size w ((w.alloc (.cells #[.int .i64 c, .slice ra n rc, .slice wa m wc] 53)).alloc (.cells #[.int .i16 r, .int .i16 a] 33))) := Lib.hid (by go_grown)
  have hm : m = L.length + 1 := by
    obtain ⟨ua, uc, e⟩ := hi.len
    rw [wdsTo_length] at e
    simp only [Value.slice.injEq] at e
    exact e.2.1
  have hn30 : (n : Int) ≤ 30 := by omega
  by_cases h1 : 0 ≤ r
  · obtain ⟨R, rfl⟩ : ∃ R : Nat, r = (R : Int) := ⟨r.toNat, by omega⟩
    have hg1 : ¬ (R : Int) < 0 := by omega
    have hw1 : IntKind.i64.wrap (R : Int) = (R : Int) := (IntWalk.i64_in _ (by omega)).trans (by omega)
    have hw2 : IntKind.i64.wrap a = a := (IntWalk.i64_in _ (by omega)).trans (by omega)
    have d1 : decide ((0 : Int) ≤ (R : Int)) = true := by rw [decide_eq_true_eq]; omega
    by_cases h2 : R ≤ n
    · by_cases h3 : 0 ≤ a
      · have hcl : ∃ g off, wa = some ⟨g, off, none⟩ ∧ g < w.heap.size ∧ w.cell? ⟨g, off + R, none⟩ = some (.int .i64 (wd c L R)) := by
          rcases hi with ⟨x, y, e, e2⟩ | ⟨b, off, cap, e, h0, hb, hc⟩
          · have := congrArg List.length e2
            rw [wdsTo_length] at this
            simp at this
          · simp only [Value.slice.injEq] at e
            exact ⟨b, off, e.1, hb, by rw [hc R (by rw [wdsTo_length]; omega), wdsTo_get c L _ R (by omega)]⟩
        obtain ⟨g, off, rfl, hgb, hcell⟩ := hcl
        have hc2 := kept ((Below.refl w.heap.size w).alloc (Nat.le_refl _) (.cells #[.int .i64 c, .slice ra n rc, .slice (some ⟨g, off, none⟩) m wc] 53)) hgb hcell
        have hc3 := kept (T0.out) hgb hcell
        have hR1 : decide ((R : Int) ≤ (n : Int)) = true := by rw [decide_eq_true_eq]; omega
        have d3 : decide (0 ≤ a) = true := by rw [decide_eq_true_eq]; omega
        have hRm : (R : Int) < (m : Int) := by omega
        have hwb := wd_bd hcb (k := R) fun j hj => hfine j (by omega)
        have hil : isLoop c L (R : Int) a = decide (a < wd c L R) := by
          unfold isLoop inB
          rw [Int.toNat_natCast]
          rw [show decide ((0 : Int) ≤ (R : Int) ∧ (R : Int) ≤ (L.length : Int)) = true by rw [decide_eq_true_eq]; omega]
          simp only [Bool.true_and, decide_eq_decide]
          omega
        have HIL := Lib.hid hil
        clear hi hcell hok hfine hcb hil hn hm hlen
        generalize wd c L R = y at *
        obtain ⟨hy1, hy2⟩ := hwb
        by_cases h4 : a < y
        · rw [show decide (a < y) = true by simp [h4]] at HIL
          have d4 : decide (a < y) = true := by simp [h4]
          go_enter Tryd.func26, Tryd.ntmps26
          go_wp2_with fail
          go_quiet (fail)
          go_wp2_with fail
          go_ret
          exact ⟨ret_bool HIL.out.symm, (by first | exact T0.out | exact T0.out.drew | exact T0.out.trans ((bdN _ _).mono T0.out.size))⟩
        · rw [show decide (a < y) = false by simp [h4]] at HIL
          have d4 : decide (a < y) = false := by simp [h4]
          go_enter Tryd.func26, Tryd.ntmps26
          go_wp2_with fail
          go_quiet (fail)
          go_wp2_with fail
          go_ret
          exact ⟨ret_bool HIL.out.symm, (by first | exact T0.out | exact T0.out.drew | exact T0.out.trans ((bdN _ _).mono T0.out.size))⟩
      · have hil : isLoop c L (R : Int) a = false := by
          unfold isLoop inB
          simp [h3]
        have HIL := Lib.hid hil
        have d3 : decide (0 ≤ a) = false := by rw [decide_eq_false_iff_not]; omega
        have hR1 : decide ((R : Int) ≤ (n : Int)) = true := by rw [decide_eq_true_eq]; omega
        clear hi hok hfine hcb hil hn hm hlen
        go_enter Tryd.func26, Tryd.ntmps26
        go_wp2_with fail
        go_quiet (fail)
        go_wp2_with fail
        go_ret
        exact ⟨ret_bool HIL.out.symm, (by first | exact T0.out | exact T0.out.drew | exact T0.out.trans ((bdN _ _).mono T0.out.size))⟩
    · have hil : isLoop c L (R : Int) a = false := by
        unfold isLoop inB
        rw [show decide ((0 : Int) ≤ (R : Int) ∧ (R : Int) ≤ (L.length : Int)) = false by rw [decide_eq_false_iff_not]; omega]
        simp only [Bool.false_and]
      have HIL := Lib.hid hil
      have hR1 : decide ((R : Int) ≤ (n : Int)) = false := by rw [decide_eq_false_iff_not]; omega
      clear hi hok hfine hcb hil hn hm hlen
      go_enter Tryd.func26, Tryd.ntmps26
      go_wp2_with fail
      go_quiet (fail)
      go_wp2_with fail
      go_ret
      exact ⟨ret_bool HIL.out.symm, (by first | exact T0.out | exact T0.out.drew | exact T0.out.trans ((bdN _ _).mono T0.out.size))⟩
  · have hil : isLoop c L r a = false := by
      unfold isLoop inB
      simp [h1]
    have HIL := Lib.hid hil
    have d1 : decide (0 ≤ r) = false := by rw [decide_eq_false_iff_not]; omega
    clear hi hok hfine hcb hil hn hm hlen
    go_enter Tryd.func26, Tryd.ntmps26
    go_wp2_with fail
    go_quiet (fail)
    go_wp2_with fail
    go_ret
    exact ⟨ret_bool HIL.out.symm, (by first | exact T0.out | exact T0.out.drew | exact T0.out.trans ((bdN _ _).mono T0.out.size))⟩
end Go.Proofs.YtcdjabhdbobghaaDoor
