/-
  No statement is proved here: strands that are valid, as the program and as the document's own text tell them; condition: at most 1048576 strands.
-/
import Derived.Test.YtaanjjmochfhgaaDoorSn
import Derived.Test.YtaanjjmochfhgaaDoorIn
namespace Go.Proofs.YtaanjjmochfhgaaDoor
open Go.ChangeShapes Go.WideShapes Go.ChangeAt Go.RowKit

/-- A strand that may be. -/
def okS (s : Sn) : Bool := inB s.1 1 2000 && decide (s.2 < 6)
def allS (ss : List Sn) : Bool := ss.all okS
theorem okS_of {a d : Int} (h : okS (a, d) = true) : (1 ≤ a ∧ a ≤ 2000) ∧ d < 6 := by
  unfold okS at h
  rw [Bool.and_eq_true] at h
  exact ⟨inB_of h.1, of_decide_eq_true h.2⟩
theorem okS_mk {a d : Int} (h1 : 1 ≤ a) (h2 : a ≤ 2000) (h3 : d < 6) : okS (a, d) = true := by
  unfold okS
  rw [inB_mk ⟨h1, h2⟩]
  simpa using h3
theorem okS_mkno {a d : Int} (h : ¬ (1 ≤ a ∧ a ≤ 2000 ∧ d < 6)) : okS (a, d) = false := by
  cases e : okS (a, d) with
  | false => rfl
  | true => exact absurd ⟨(okS_of e).1.1, (okS_of e).1.2, (okS_of e).2⟩ h
theorem takeS {ss : List Sn} {k : Nat} (hk : k < ss.length) : ss.take (k + 1) = ss.take k ++ [sat ss k] := by
  rw [List.take_add_one, List.getElem?_eq_getElem hk, sat, List.getD, List.getElem?_eq_getElem hk]
  rfl
theorem allS_step (ss : List Sn) (k : Nat) (hk : k < ss.length) : allS (ss.take (k + 1)) = (allS (ss.take k) && okS (sat ss k)) := by
  rw [takeS hk, allS, List.all_append, ← allS]
  simp
theorem allS_no (ss : List Sn) (k : Nat) (hk : k < ss.length) (h : okS (sat ss k) = false) : allS ss = false := by
  rw [allS, List.all_eq_false]
  refine ⟨sat ss k, ?_, by rw [h]; simp⟩
  rw [sat, List.getD, List.getElem?_eq_getElem hk]
  exact List.getElem_mem hk
theorem allS_get {ss : List Sn} (h : allS ss = true) (k : Nat) (hk : k < ss.length) : okS (sat ss k) = true := by
  rw [allS, List.all_eq_true] at h
  refine h _ ?_
  rw [sat, List.getD, List.getElem?_eq_getElem hk]
  exact List.getElem_mem hk

/-- A thread as a value: its dye, its length, and when it comes off. -/
abbrev tv (d l o : Int) : Value := .agg #[.int .u8 d, .int .i64 l, .int .i64 o]
theorem thread_any (a d : Int) (w : World) (h : IsSt (a, d)) :
    Calls Tryd.prog 48 #[.agg #[.int .i16 a, .int .u8 d]] w fun e w' => e = .returned (tv d a 0) ∧ Below w.heap.size w w' := by
  obtain ⟨⟨h1, h2⟩, h3, h4⟩ := h
  simp only at h1 h2 h3 h4
  go_enter Tryd.func48, Tryd.ntmps48
  go_wp2
  go_returns
  exact ⟨rfl, by go_grown⟩

set_option maxHeartbeats 1000000 in
theorem isValid_any (a d o : Int) (w : World) :
    Calls Tryd.prog 57 #[tv d a o] w fun e w' => e = .returned (.bool (okS (a, d))) ∧ Below w.heap.size w w' := by
  by_cases h1 : 1 ≤ a
  · by_cases h2 : a ≤ 2000
    · by_cases h3 : d < 6
      · rw [okS_mk h1 h2 h3]
        go_enter Tryd.func57, Tryd.ntmps57
        go_wp2
        go_ret
        exact ⟨rfl, by go_grown⟩
      · rw [okS_mkno (by omega)]
        go_enter Tryd.func57, Tryd.ntmps57
        go_wp2
        go_ret
        exact ⟨rfl, by go_grown⟩
    · rw [okS_mkno (by omega)]
      go_enter Tryd.func57, Tryd.ntmps57
      go_wp2
      go_ret
      exact ⟨rfl, by go_grown⟩
  · rw [okS_mkno (by omega)]
    go_enter Tryd.func57, Tryd.ntmps57
    go_wp2
    go_ret
    exact ⟨rfl, by go_grown⟩

set_option maxRecDepth 100000 in
set_option maxHeartbeats 2000000 in
theorem implStrands_any (v : Value) (ss : List Sn) (w : World) (h : Strands w v ss) (hn : ss.length ≤ 1048576) :
    Calls Tryd.prog 53 #[v] w fun e w' => e = .returned (.bool (allS ss)) ∧ Below w.heap.size w w' := by
  by_cases h0 : ss.length = 0
  · have hx : ss = [] := List.length_eq_zero_iff.1 h0
    subst hx
    obtain ⟨a, cap, rfl⟩ := h.nil
    go_enter Tryd.func53, Tryd.ntmps53
    go_wp2
    go_rounds 1
    go_ret
    exact ⟨rfl, Below.refl _ _⟩
  · obtain ⟨b, off, cap, rfl, hb, hc⟩ := h.pos (by omega)
    have H16 := Lib.hid h.1
    have U1 := Lib.hid (allS_step ss)
    have U2 := Lib.hid (allS_no ss)
    have U3 := Lib.hid (show allS (ss.take ss.length) = allS ss by rw [List.take_length])
    obtain ⟨n, hln⟩ : ∃ n, n = ss.length := ⟨_, rfl⟩
    rw [← hln] at U1 U2 U3 hc hn h0 ⊢
    have HC := Lib.hid hc
    clear hc hln h
    obtain ⟨r, hr⟩ : ∃ r, r = allS ss := ⟨_, rfl⟩
    rw [← hr] at U2 U3 ⊢
    clear hr
    go_enter Tryd.func53, Tryd.ntmps53
    go_wp2
    go_loopw [7] (fun i wr => ∃ k : Nat, k ≤ n ∧ i = .int .i64 k ∧ Hid (allS (ss.take k) = true) ∧ Below w.heap.size w wr) (fun i _ => n - (intOf i).toNat)
    case atStart => exact ⟨0, Nat.zero_le _, rfl, by rfl, Below.refl _ _⟩
    case round =>
      obtain ⟨k, hk, rfl, hS, hB⟩ := hrel
      by_cases hlt : k < n
      · obtain ⟨p1, p2⟩ := HC.out k hlt
        have u1 := U1.out k hlt
        have u2 := U2.out k hlt
        have u3 := H16.out k
        rw [hS.out, Bool.true_and] at u1
        obtain ⟨y, hy⟩ : ∃ y, y = sat ss k := ⟨_, rfl⟩
        rw [← hy] at p1 p2 u1 u2 u3
        clear hy
        obtain ⟨y0, y1⟩ := y
        simp only at p1 p2
        have d1 := (hB.cell (p := ⟨b, off + k * 2, none⟩) hb).trans p1
        have d2 := (hB.cell (p := ⟨b, off + k * 2 + 1, none⟩) hb).trans p2
        have HB := Lib.hid hB
        have HT := Lib.hid fun wx => thread_any y0 y1 wx u3
        have HV := Lib.hid fun wx => isValid_any y0 y1 0 wx
        clear hB p1 p2 u3
        cases hok : okS (y0, y1) with
        | false =>
          rw [hok] at HV
          have HE := Lib.hid (u2 hok)
          clear u1 u2 hok
          go_wp2_with fail
          refine (HT.out _).mono ?_
          rintro e w2 ⟨rfl, hB⟩
          have B2 := Lib.hid ((HB.out.alloc HB.out.size _).trans (hB.mono (by have := HB.out.size; simp; omega)))
          clear hB
          go_wp2_with fail
          refine (HV.out _).mono ?_
          rintro e w3 ⟨rfl, hB⟩
          have B3 := Lib.hid (B2.out.trans (hB.mono B2.out.size))
          clear hB
          go_wp2
          go_ret
          exact ⟨ret_bool HE.out.symm, B3.out⟩
        | true =>
          rw [hok] at HV
          have HE := Lib.hid (u1.trans hok)
          clear u1 u2 hok
          go_wp2_with fail
          refine (HT.out _).mono ?_
          rintro e w2 ⟨rfl, hB⟩
          have B2 := Lib.hid ((HB.out.alloc HB.out.size _).trans (hB.mono (by have := HB.out.size; simp; omega)))
          clear hB
          go_wp2_with fail
          refine (HV.out _).mono ?_
          rintro e w3 ⟨rfl, hB⟩
          have B3 := Lib.hid (B2.out.trans (hB.mono B2.out.size))
          clear hB
          go_wp2
          go_roundw
          case rel => exact ⟨k + 1, by omega, by go_num, HE, B3.out⟩
          case measure => simp [intOf]; omega
      · have hkn : k = n := by omega
        subst hkn
        have HE := Lib.hid (U3.out.symm.trans hS.out)
        have HB := Lib.hid hB
        clear hB
        go_wp2
        go_ret
        exact ⟨ret_bool HE.out.symm, HB.out⟩

set_option maxRecDepth 100000 in
set_option maxHeartbeats 2000000 in
theorem l04Strands_any (v : Value) (ss : List Sn) (w : World) (h : Strands w v ss) (hn : ss.length ≤ 1048576) :
    Calls Tryd.prog 34 #[v] w fun e w' => e = .returned (.bool (allS ss)) ∧ w = w' := by
  by_cases h0 : ss.length = 0
  · have hx : ss = [] := List.length_eq_zero_iff.1 h0
    subst hx
    obtain ⟨a, cap, rfl⟩ := h.nil
    go_enter Tryd.func34, Tryd.ntmps34
    go_wp2
    go_rounds 1
    go_ret
    exact ⟨rfl, rfl⟩
  · obtain ⟨b, off, cap, rfl, hb, hc⟩ := h.pos (by omega)
    have H16 := Lib.hid h.1
    have U1 := Lib.hid (allS_step ss)
    have U2 := Lib.hid (allS_no ss)
    have U3 := Lib.hid (show allS (ss.take ss.length) = allS ss by rw [List.take_length])
    obtain ⟨n, hln⟩ : ∃ n, n = ss.length := ⟨_, rfl⟩
    rw [← hln] at U1 U2 U3 hc hn h0 ⊢
    have HC := Lib.hid hc
    clear hc hln h
    obtain ⟨r, hr⟩ : ∃ r, r = allS ss := ⟨_, rfl⟩
    rw [← hr] at U2 U3 ⊢
    clear hr
    go_enter Tryd.func34, Tryd.ntmps34
    go_wp2
    go_loop [3] (fun i => ∃ k : Nat, k ≤ n ∧ i = .int .i64 k ∧ Hid (allS (ss.take k) = true)) (fun i => n - (intOf i).toNat)
    case atStart => exact ⟨0, Nat.zero_le _, rfl, by rfl⟩
    case round =>
      obtain ⟨k, hk, rfl, hS⟩ := hrel
      by_cases hlt : k < n
      · obtain ⟨d1, d2⟩ := HC.out k hlt
        have u1 := U1.out k hlt
        have u2 := U2.out k hlt
        obtain ⟨⟨u3, u4⟩, u5, u6⟩ := H16.out k
        rw [hS.out, Bool.true_and] at u1
        obtain ⟨y, hy⟩ : ∃ y, y = sat ss k := ⟨_, rfl⟩
        rw [← hy] at d1 d2 u1 u2 u3 u4 u5 u6
        clear hy
        obtain ⟨y0, y1⟩ := y
        simp only at d1 d2 u3 u4 u5 u6
        have HI := Lib.hid fun wx => in_any y0 1 2000 wx
        have hkn : (k : Int) < (n : Int) := by omega
        cases hin : inB y0 1 2000 with
        | false =>
          rw [hin] at HI
          have HE := Lib.hid (u2 (by simp [okS, hin]))
          clear u1 u2 hin
          go_wp2_with fail
          refine (HI.out _).mono ?_
          rintro e w2 ⟨rfl, rfl⟩
          go_wp2
          go_ret
          exact ⟨ret_bool HE.out.symm, rfl⟩
        | true =>
          rw [hin] at HI
          by_cases h6 : y1 < 6
          · have h6' : ¬ 6 ≤ y1 := by omega
            have HE := Lib.hid (u1.trans (show okS (y0, y1) = true by simp [okS, hin, h6]))
            clear u1 u2 hin
            go_wp2_with fail
            refine (HI.out _).mono ?_
            rintro e w2 ⟨rfl, rfl⟩
            go_wp2
            go_round
            case rel => exact ⟨k + 1, by omega, by go_num, HE⟩
            case measure => simp [intOf]; omega
          · have h6' : 6 ≤ y1 := by omega
            have HE := Lib.hid (u2 (by simp [okS, hin]; omega))
            clear u1 u2 hin
            go_wp2_with fail
            refine (HI.out _).mono ?_
            rintro e w2 ⟨rfl, rfl⟩
            go_wp2
            go_ret
            exact ⟨ret_bool HE.out.symm, rfl⟩
      · have hkn : k = n := by omega
        subst hkn
        have HE := Lib.hid (U3.out.symm.trans hS.out)
        go_wp2
        go_ret
        exact ⟨ret_bool HE.out.symm, rfl⟩
end Go.Proofs.YtaanjjmochfhgaaDoor
