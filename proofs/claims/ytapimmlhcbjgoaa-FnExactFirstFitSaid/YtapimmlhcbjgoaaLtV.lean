/-
  No statement is proved here: lists of lots that are valid, as both texts tell them; condition: at most 1048576 of them.
-/
import Derived.Test.YtapimmlhcbjgoaaLt
import Derived.Test.YtapimmlhcbjgoaaShadeV
namespace Go.Proofs.Ytapimmlhcbjgoaa
open Go.ChangeShapes Go.WideShapes Go.ChangeAt Go.RowKit

def okLt (y : Lt) : Bool := inB y.1 0 9 && inB y.2 0 5000
def allLt (ys : List Lt) : Bool := ys.all okLt
def isLts (ys : List Lt) : Bool := allLt ys && decide (ys.length ≤ 6)
theorem takeLt' {ys : List Lt} {k : Nat} (hk : k < ys.length) : ys.take (k + 1) = ys.take k ++ [atLt ys k] := by
  rw [List.take_add_one, List.getElem?_eq_getElem hk, atLt, List.getD, List.getElem?_eq_getElem hk]
  rfl
theorem allLt_step (ys : List Lt) (k : Nat) (hk : k < ys.length) : allLt (ys.take (k + 1)) = (allLt (ys.take k) && okLt (atLt ys k)) := by
  rw [takeLt' hk, allLt, List.all_append, ← allLt]
  simp
theorem allLt_no (ys : List Lt) (k : Nat) (hk : k < ys.length) (h : okLt (atLt ys k) = false) : isLts ys = false := by
  have : allLt ys = false := by
    rw [allLt, List.all_eq_false]
    refine ⟨atLt ys k, ?_, by rw [h]; simp⟩
    rw [atLt, List.getD, List.getElem?_eq_getElem hk]
    exact List.getElem_mem hk
  rw [isLts, this]
  rfl
theorem allLt_get {ys : List Lt} (h : allLt ys = true) (k : Nat) (hk : k < ys.length) : okLt (atLt ys k) = true := by
  rw [allLt, List.all_eq_true] at h
  refine h _ ?_
  rw [atLt, List.getD, List.getElem?_eq_getElem hk]
  exact List.getElem_mem hk
theorem isLts_of {ys : List Lt} (h : isLts ys = true) : allLt ys = true ∧ ys.length ≤ 6 := by
  rw [isLts, Bool.and_eq_true] at h
  exact ⟨h.1, of_decide_eq_true h.2⟩
theorem isLts_nil : isLts [] = true := by decide
theorem okLt_1 {y0 y1 : Int} (h : (inB y0 0 9) = false) : okLt (y0, y1) = false := by show ((inB y0 0 9) && _) = false; rw [h]; rfl
theorem okLt_2 {y0 y1 : Int} (h : y1 < 0 ∨ 5000 < y1) : okLt (y0, y1) = false := by show (_ && inB y1 0 5000) = false; rw [inB_mkno h]; simp
theorem okLt_3 {y0 y1 : Int} (h : (inB y0 0 9) = true) (h1 : ¬ y1 < 0) (h2 : ¬ 5000 < y1) : okLt (y0, y1) = true := by show ((inB y0 0 9) && inB y1 0 5000) = true; rw [h, inB_mk (by omega)]; rfl

set_option maxRecDepth 100000 in
set_option maxHeartbeats 4000000 in
theorem implLts_any (v : Value) (ys : List Lt) (w : World) (h : Lts w v ys) (hn : ys.length ≤ 1048576) :
    Calls Try.prog 32 #[v] w fun e w' => e = .returned (.bool (isLts ys)) ∧ Below w.heap.size w w' := by
  by_cases hm : ys.length ≤ 6
  rotate_left
  · have hr : isLts ys = false := by rw [isLts, decide_eq_false hm, Bool.and_false]
    rw [hr]
    obtain ⟨a, cap, rfl⟩ := h.len
    have hgt : (6 : Int) < (ys.length : Int) := by omega
    clear h hr
    generalize ys.length = n at *
    go_enter Try.func32, Try.ntmps32
    go_wp2
    go_ret
    exact ⟨rfl, Below.refl _ _⟩
  have hgt : ¬ (6 : Int) < (ys.length : Int) := by omega
  by_cases h0 : ys.length = 0
  · have hx : ys = [] := List.length_eq_zero_iff.1 h0
    subst hx
    obtain ⟨a, cap, rfl⟩ := h.nil
    go_enter Try.func32, Try.ntmps32
    go_wp2
    go_rounds 1
    go_ret
    exact ⟨rfl, Below.refl _ _⟩
  · have hdm := Lib.hid (decide_eq_true hm)
    obtain ⟨b, off, cap, rfl, hb, hc⟩ := h.pos (by omega)
    have H16 := Lib.hid h.1
    have U1 := Lib.hid (allLt_step ys)
    have U2 := Lib.hid (allLt_no ys)
    have U3 := Lib.hid (show allLt (ys.take ys.length) = true → isLts ys = decide (ys.length ≤ 6) by rw [List.take_length]; intro h; rw [isLts, h]; rfl)
    obtain ⟨n, hln⟩ : ∃ n, n = ys.length := ⟨_, rfl⟩
    rw [← hln] at U1 U2 U3 hc hn h0 hm hdm hgt ⊢
    have HC := Lib.hid hc
    clear hc hln h
    obtain ⟨r, hr⟩ : ∃ r, r = isLts ys := ⟨_, rfl⟩
    rw [← hr] at U2 U3 ⊢
    clear hr
    go_enter Try.func32, Try.ntmps32
    go_wp2
    go_loopw [10] (fun i wr => ∃ k : Nat, k ≤ n ∧ i = .int .i64 k ∧ Hid (allLt (ys.take k) = true) ∧ Below w.heap.size w wr) (fun i _ => n - (intOf i).toNat)
    case atStart => exact ⟨0, Nat.zero_le _, rfl, by rfl, Below.refl _ _⟩
    case round =>
      obtain ⟨k, hk, rfl, hS, hB⟩ := hrel
      by_cases hlt : k < n
      · skip
        have u1 := U1.out k hlt
        have u2 := U2.out k hlt
        have u3 := H16.out k
        have hc := HC.out k hlt
        rw [hS.out, Bool.true_and] at u1
        obtain ⟨y, hy⟩ : ∃ y, y = atLt ys k := ⟨_, rfl⟩
        rw [← hy] at hc u1 u2 u3
        clear hy
        obtain ⟨y0, y1⟩ := y
        simp only at hc
        have d0 := (hB.cell (p := ⟨b, _, none⟩) hb).trans hc.1
        have d1 := (hB.cell (p := ⟨b, _, none⟩) hb).trans hc.2
        have HB := Lib.hid hB
        have HCa := Lib.hid fun wx => implShade_any y0 wx
        obtain ⟨⟨s0, t0⟩, ⟨s1, t1⟩⟩ := u3
        simp only at s0 t0 s1 t1
        clear hB hc hS
        cases hok : inB y0 0 9 with
        | false =>
          rw [hok] at HCa
          have HE := Lib.hid (u2 (okLt_1 hok))
          clear u1 u2 hok
          go_wp2_with fail
          refine (HCa.out _).mono ?_
          rintro e w2 ⟨rfl, rfl⟩
          go_wp2
          go_ret
          exact ⟨ret_bool HE.out.symm, HB.out.trans ((show Below wr.heap.size wr _ by go_grown).mono HB.out.size)⟩
        | true =>
          rw [hok] at HCa
          by_cases hlo : y1 < 0
          · have HE := Lib.hid (u2 (okLt_2 (.inl hlo)))
            clear u1 u2 hok
            go_wp2_with fail
            refine (HCa.out _).mono ?_
            rintro e w2 ⟨rfl, rfl⟩
            go_wp2
            go_ret
            exact ⟨ret_bool HE.out.symm, HB.out.trans ((show Below wr.heap.size wr _ by go_grown).mono HB.out.size)⟩
          · by_cases hhi : 5000 < y1
            · have HE := Lib.hid (u2 (okLt_2 (.inr hhi)))
              clear u1 u2 hok
              go_wp2_with fail
              refine (HCa.out _).mono ?_
              rintro e w2 ⟨rfl, rfl⟩
              go_wp2
              go_ret
              exact ⟨ret_bool HE.out.symm, HB.out.trans ((show Below wr.heap.size wr _ by go_grown).mono HB.out.size)⟩
            · have HE := Lib.hid (u1.trans (okLt_3 hok hlo hhi))
              clear u1 u2 hok
              go_wp2_with fail
              refine (HCa.out _).mono ?_
              rintro e w2 ⟨rfl, rfl⟩
              go_wp2
              go_roundw
              case rel => exact ⟨k + 1, by omega, by go_num, HE, HB.out.trans ((show Below wr.heap.size wr _ by go_grown).mono HB.out.size)⟩
              case measure => simp [intOf]; omega
      · have hkn : k = n := by omega
        subst hkn
        have HE := Lib.hid ((U3.out hS.out).trans hdm.out)
        have HB := Lib.hid hB
        clear hB
        go_wp2
        go_ret
        exact ⟨ret_bool HE.out.symm, HB.out⟩

set_option maxRecDepth 100000 in
set_option maxHeartbeats 4000000 in
theorem specLts0_any (v : Value) (ys : List Lt) (w : World) (h : Lts w v ys) (hn : ys.length ≤ 1048576) :
    Calls Try.prog 20 #[v] w fun e w' => e = .returned (.bool (isLts ys)) ∧ Below w.heap.size w w' := by
  by_cases h0 : ys.length = 0
  · have hx : ys = [] := List.length_eq_zero_iff.1 h0
    subst hx
    obtain ⟨a, cap, rfl⟩ := h.nil
    go_enter Try.func20, Try.ntmps20
    go_wp2
    go_rounds 1
    go_ret
    exact ⟨rfl, Below.refl _ _⟩
  · have hm : True := trivial
    obtain ⟨b, off, cap, rfl, hb, hc⟩ := h.pos (by omega)
    have H16 := Lib.hid h.1
    have U1 := Lib.hid (allLt_step ys)
    have U2 := Lib.hid (allLt_no ys)
    have U3 := Lib.hid (show allLt (ys.take ys.length) = true → isLts ys = decide (ys.length ≤ 6) by rw [List.take_length]; intro h; rw [isLts, h]; rfl)
    obtain ⟨n, hln⟩ : ∃ n, n = ys.length := ⟨_, rfl⟩
    rw [← hln] at U1 U2 U3 hc hn h0 ⊢
    have HC := Lib.hid hc
    clear hc hln h
    obtain ⟨r, hr⟩ : ∃ r, r = isLts ys := ⟨_, rfl⟩
    rw [← hr] at U2 U3 ⊢
    clear hr
    have HD : Hid (decide ((n : Int) ≤ 6) = decide (n ≤ 6)) := Lib.hid (by by_cases hh : n ≤ 6 <;> simp [hh] <;> omega)
    go_enter Try.func20, Try.ntmps20
    go_wp2
    go_loopw [3] (fun i wr => ∃ k : Nat, k ≤ n ∧ i = .int .i64 k ∧ Hid (allLt (ys.take k) = true) ∧ Below w.heap.size w wr) (fun i _ => n - (intOf i).toNat)
    case atStart => exact ⟨0, Nat.zero_le _, rfl, by rfl, Below.refl _ _⟩
    case round =>
      obtain ⟨k, hk, rfl, hS, hB⟩ := hrel
      by_cases hlt : k < n
      · have hki : (k : Int) < (n : Int) := by omega
        have u1 := U1.out k hlt
        have u2 := U2.out k hlt
        have u3 := H16.out k
        have hc := HC.out k hlt
        rw [hS.out, Bool.true_and] at u1
        obtain ⟨y, hy⟩ : ∃ y, y = atLt ys k := ⟨_, rfl⟩
        rw [← hy] at hc u1 u2 u3
        clear hy
        obtain ⟨y0, y1⟩ := y
        simp only at hc
        have d0 := (hB.cell (p := ⟨b, _, none⟩) hb).trans hc.1
        have d1 := (hB.cell (p := ⟨b, _, none⟩) hb).trans hc.2
        have HB := Lib.hid hB
        have HCa := Lib.hid fun wx => specShade_any y0 wx
        have HI := Lib.hid fun wx => in_any y1 0 5000 wx
        have r1 := u3.2.1
        have r2 := u3.2.2
        simp only at r1 r2
        clear hB hc hS u3
        cases hok : inB y0 0 9 with
        | false =>
          rw [hok] at HCa
          have HE := Lib.hid (u2 (okLt_1 hok))
          clear u1 u2 hok
          go_wp2_with fail
          refine (HCa.out _).mono ?_
          rintro e w2 ⟨rfl, rfl⟩
          go_wp2
          go_ret
          exact ⟨ret_bool HE.out.symm, HB.out⟩
        | true =>
          rw [hok] at HCa
          cases hin : inB y1 0 5000 with
          | false =>
            rw [hin] at HI
            have HE := Lib.hid (u2 (okLt_2 (inB_no hin)))
            clear u1 u2 hok hin
            go_wp2_with fail
            refine (HCa.out _).mono ?_
            rintro e w2 ⟨rfl, rfl⟩
            go_wp2_with fail
            refine (HI.out _).mono ?_
            rintro e w2 ⟨rfl, rfl⟩
            go_wp2
            go_ret
            exact ⟨ret_bool HE.out.symm, HB.out⟩
          | true =>
            rw [hin] at HI
            have HE := Lib.hid (u1.trans (okLt_3 hok (by have := inB_of hin; omega) (by have := inB_of hin; omega)))
            clear u1 u2 hok hin
            go_wp2_with fail
            refine (HCa.out _).mono ?_
            rintro e w2 ⟨rfl, rfl⟩
            go_wp2_with fail
            refine (HI.out _).mono ?_
            rintro e w2 ⟨rfl, rfl⟩
            go_wp2
            go_roundw
            case rel => exact ⟨k + 1, by omega, by go_num, HE, HB.out⟩
            case measure => simp [intOf]; omega
      · have hkn : k = n := by omega
        subst hkn
        have HE := Lib.hid (U3.out hS.out)
        have HB := Lib.hid hB
        clear hB
        go_wp2
        go_ret
        exact ⟨ret_bool (HD.out.trans HE.out.symm), HB.out⟩
end Go.Proofs.Ytapimmlhcbjgoaa
