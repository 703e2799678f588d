/-
  No statement is proved here: lists of moves that are valid, as both texts tell them; condition: at most 1048576 of them.
-/
import Derived.Test.YtajaiahfoknkcaaDoorMv
import Derived.Test.YtajaiahfoknkcaaDoorMayV
namespace Go.Proofs.YtajaiahfoknkcaaDoor
open Go.ChangeShapes Go.WideShapes Go.ChangeAt Go.RowKit

def okMv (y : Mv) : Bool := mayB y.1 y.2.1 && inB y.2.2 1 5000
def allMv (ys : List Mv) : Bool := ys.all okMv
def isMvs (ys : List Mv) : Bool := allMv ys && decide (ys.length ≤ 60)
theorem takeMv' {ys : List Mv} {k : Nat} (hk : k < ys.length) : ys.take (k + 1) = ys.take k ++ [atMv ys k] := by
  rw [List.take_add_one, List.getElem?_eq_getElem hk, atMv, List.getD, List.getElem?_eq_getElem hk]
  rfl
theorem allMv_step (ys : List Mv) (k : Nat) (hk : k < ys.length) : allMv (ys.take (k + 1)) = (allMv (ys.take k) && okMv (atMv ys k)) := by
  rw [takeMv' hk, allMv, List.all_append, ← allMv]
  simp
theorem allMv_no (ys : List Mv) (k : Nat) (hk : k < ys.length) (h : okMv (atMv ys k) = false) : isMvs ys = false := by
  have : allMv ys = false := by
    rw [allMv, List.all_eq_false]
    refine ⟨atMv ys k, ?_, by rw [h]; simp⟩
    rw [atMv, List.getD, List.getElem?_eq_getElem hk]
    exact List.getElem_mem hk
  rw [isMvs, this]
  rfl
theorem allMv_get {ys : List Mv} (h : allMv ys = true) (k : Nat) (hk : k < ys.length) : okMv (atMv ys k) = true := by
  rw [allMv, List.all_eq_true] at h
  refine h _ ?_
  rw [atMv, List.getD, List.getElem?_eq_getElem hk]
  exact List.getElem_mem hk
theorem isMvs_of {ys : List Mv} (h : isMvs ys = true) : allMv ys = true ∧ ys.length ≤ 60 := by
  rw [isMvs, Bool.and_eq_true] at h
  exact ⟨h.1, of_decide_eq_true h.2⟩
theorem isMvs_nil : isMvs [] = true := by decide
theorem okMv_1 {y0 y1 y2 : Int} (h : (mayB y0 y1) = false) : okMv (y0, y1, y2) = false := by show ((mayB y0 y1) && _) = false; rw [h]; rfl
theorem okMv_2 {y0 y1 y2 : Int} (h : y2 < 1 ∨ 5000 < y2) : okMv (y0, y1, y2) = false := by show (_ && inB y2 1 5000) = false; rw [inB_mkno h]; simp
theorem okMv_3 {y0 y1 y2 : Int} (h : (mayB y0 y1) = true) (h1 : ¬ y2 < 1) (h2 : ¬ 5000 < y2) : okMv (y0, y1, y2) = true := by show ((mayB y0 y1) && inB y2 1 5000) = true; rw [h, inB_mk (by omega)]; rfl

set_option maxHeartbeats 2000000 in
theorem l07Move_any (y0 y1 y2 : Int) (h : IsMv (y0, y1, y2)) (w : World) :
    Calls Tryd.prog 16 #[.agg #[.int .i8 y0, .int .i8 y1, .int .i16 y2]] w fun e w' => e = .returned (.bool (okMv (y0, y1, y2))) ∧ Below w.heap.size w w' := by
  obtain ⟨⟨a1, a2⟩, ⟨b1, b2⟩, c1, c2⟩ := h
  simp only at a1 a2 b1 b2 c1 c2
  have HC := Lib.hid fun wx => specMay_any y0 y1 wx
  have HI := Lib.hid fun wx => in_any y2 1 5000 wx
  have hr : okMv (y0, y1, y2) = (mayB y0 y1 && inB y2 1 5000) := rfl
  rw [hr]
  clear hr
  generalize mayB y0 y1 = p at *
  generalize inB y2 1 5000 = q at *
  cases p
  · go_enter Tryd.func16, Tryd.ntmps16
    go_wp2_with fail
    refine (HC.out _).mono ?_
    rintro e w2 ⟨rfl, rfl⟩
    go_wp2
    go_ret
    exact ⟨rfl, by go_grown⟩
  · go_enter Tryd.func16, Tryd.ntmps16
    go_wp2_with fail
    refine (HC.out _).mono ?_
    rintro e w2 ⟨rfl, rfl⟩
    go_wp2_with fail
    refine (HI.out _).mono ?_
    rintro e w2 ⟨rfl, rfl⟩
    go_wp2
    go_ret
    exact ⟨rfl, by go_grown⟩

set_option maxRecDepth 100000 in
set_option maxHeartbeats 4000000 in
theorem implMvs_any (v : Value) (ys : List Mv) (w : World) (h : Mvs w v ys) (hn : ys.length ≤ 1048576) :
    Calls Tryd.prog 12 #[v] w fun e w' => e = .returned (.bool (isMvs ys)) ∧ Below w.heap.size w w' := by
  by_cases hm : ys.length ≤ 60
  rotate_left
  · have hr : isMvs ys = false := by rw [isMvs, decide_eq_false hm, Bool.and_false]
    rw [hr]
    obtain ⟨a, cap, rfl⟩ := h.len
    have hgt : (60 : Int) < (ys.length : Int) := by omega
    clear h hr
    generalize ys.length = n at *
    go_enter Tryd.func12, Tryd.ntmps12
    go_wp2
    go_ret
    exact ⟨rfl, Below.refl _ _⟩
  have hgt : ¬ (60 : Int) < (ys.length : Int) := by omega
  by_cases h0 : ys.length = 0
  · have hx : ys = [] := List.length_eq_zero_iff.1 h0
    subst hx
    obtain ⟨a, cap, rfl⟩ := h.nil
    go_enter Tryd.func12, Tryd.ntmps12
    go_wp2
    go_rounds 1
    go_ret
    exact ⟨rfl, Below.refl _ _⟩
  · have hdm := Lib.hid (decide_eq_true hm)
    obtain ⟨b, off, cap, rfl, hb, hc⟩ := h.pos (by omega)
    have H16 := Lib.hid h.1
    have U1 := Lib.hid (allMv_step ys)
    have U2 := Lib.hid (allMv_no ys)
    have U3 := Lib.hid (show allMv (ys.take ys.length) = true → isMvs ys = decide (ys.length ≤ 60) by rw [List.take_length]; intro h; rw [isMvs, h]; rfl)
    obtain ⟨n, hln⟩ : ∃ n, n = ys.length := ⟨_, rfl⟩
    rw [← hln] at U1 U2 U3 hc hn h0 hm hdm hgt ⊢
    have HC := Lib.hid hc
    clear hc hln h
    obtain ⟨r, hr⟩ : ∃ r, r = isMvs ys := ⟨_, rfl⟩
    rw [← hr] at U2 U3 ⊢
    clear hr
    go_enter Tryd.func12, Tryd.ntmps12
    go_wp2
    go_loopw [10] (fun i wr => ∃ k : Nat, k ≤ n ∧ i = .int .i64 k ∧ Hid (allMv (ys.take k) = true) ∧ Below w.heap.size w wr) (fun i _ => n - (intOf i).toNat)
    case atStart => exact ⟨0, Nat.zero_le _, rfl, by rfl, Below.refl _ _⟩
    case round =>
      obtain ⟨k, hk, rfl, hS, hB⟩ := hrel
      by_cases hlt : k < n
      · skip
        have u1 := U1.out k hlt
        have u2 := U2.out k hlt
        have u3 := H16.out k
        have hc := HC.out k hlt
        rw [hS.out, Bool.true_and] at u1
        obtain ⟨y, hy⟩ : ∃ y, y = atMv ys k := ⟨_, rfl⟩
        rw [← hy] at hc u1 u2 u3
        clear hy
        obtain ⟨y0, y1, y2⟩ := y
        simp only at hc
        have d0 := (hB.cell (p := ⟨b, _, none⟩) hb).trans hc.1
        have d1 := (hB.cell (p := ⟨b, _, none⟩) hb).trans hc.2.1
        have d2 := (hB.cell (p := ⟨b, _, none⟩) hb).trans hc.2.2
        have HB := Lib.hid hB
        have HCa := Lib.hid fun wx => implMay_any y0 y1 wx
        obtain ⟨⟨s0, t0⟩, ⟨s1, t1⟩, ⟨s2, t2⟩⟩ := u3
        simp only at s0 t0 s1 t1 s2 t2
        clear hB hc hS
        cases hok : mayB y0 y1 with
        | false =>
          rw [hok] at HCa
          have HE := Lib.hid (u2 (okMv_1 hok))
          clear u1 u2 hok
          go_wp2_with fail
          refine (HCa.out _).mono ?_
          rintro e w2 ⟨rfl, rfl⟩
          go_wp2
          go_ret
          exact ⟨ret_bool HE.out.symm, HB.out.trans ((show Below wr.heap.size wr _ by go_grown).mono HB.out.size)⟩
        | true =>
          rw [hok] at HCa
          by_cases hlo : y2 < 1
          · have HE := Lib.hid (u2 (okMv_2 (.inl hlo)))
            clear u1 u2 hok
            go_wp2_with fail
            refine (HCa.out _).mono ?_
            rintro e w2 ⟨rfl, rfl⟩
            go_wp2
            go_ret
            exact ⟨ret_bool HE.out.symm, HB.out.trans ((show Below wr.heap.size wr _ by go_grown).mono HB.out.size)⟩
          · by_cases hhi : 5000 < y2
            · have HE := Lib.hid (u2 (okMv_2 (.inr hhi)))
              clear u1 u2 hok
              go_wp2_with fail
              refine (HCa.out _).mono ?_
              rintro e w2 ⟨rfl, rfl⟩
              go_wp2
              go_ret
              exact ⟨ret_bool HE.out.symm, HB.out.trans ((show Below wr.heap.size wr _ by go_grown).mono HB.out.size)⟩
            · have HE := Lib.hid (u1.trans (okMv_3 hok hlo hhi))
              clear u1 u2 hok
              go_wp2_with fail
              refine (HCa.out _).mono ?_
              rintro e w2 ⟨rfl, rfl⟩
              go_wp2
              go_roundw
              case rel => exact ⟨k + 1, by omega, by go_num, HE, HB.out.trans ((show Below wr.heap.size wr _ by go_grown).mono HB.out.size)⟩
              case measure => simp [intOf]; omega
      · have hkn : k = n := by omega
        subst hkn
        have HE := Lib.hid ((U3.out hS.out).trans hdm.out)
        have HB := Lib.hid hB
        clear hB
        go_wp2
        go_ret
        exact ⟨ret_bool HE.out.symm, HB.out⟩

set_option maxRecDepth 100000 in
set_option maxHeartbeats 4000000 in
theorem specMvs0_any (v : Value) (ys : List Mv) (w : World) (h : Mvs w v ys) (hn : ys.length ≤ 1048576) :
    Calls Tryd.prog 9 #[v] w fun e w' => e = .returned (.bool (isMvs ys)) ∧ Below w.heap.size w w' := by
  by_cases h0 : ys.length = 0
  · have hx : ys = [] := List.length_eq_zero_iff.1 h0
    subst hx
    obtain ⟨a, cap, rfl⟩ := h.nil
    go_enter Tryd.func9, Tryd.ntmps9
    go_wp2
    go_rounds 1
    go_ret
    exact ⟨rfl, Below.refl _ _⟩
  · have hm : True := trivial
    obtain ⟨b, off, cap, rfl, hb, hc⟩ := h.pos (by omega)
    have H16 := Lib.hid h.1
    have U1 := Lib.hid (allMv_step ys)
    have U2 := Lib.hid (allMv_no ys)
    have U3 := Lib.hid (show allMv (ys.take ys.length) = true → isMvs ys = decide (ys.length ≤ 60) by rw [List.take_length]; intro h; rw [isMvs, h]; rfl)
    obtain ⟨n, hln⟩ : ∃ n, n = ys.length := ⟨_, rfl⟩
    rw [← hln] at U1 U2 U3 hc hn h0 ⊢
    have HC := Lib.hid hc
    clear hc hln h
    obtain ⟨r, hr⟩ : ∃ r, r = isMvs ys := ⟨_, rfl⟩
    rw [← hr] at U2 U3 ⊢
    clear hr
    have HD : Hid (decide ((n : Int) ≤ 60) = decide (n ≤ 60)) := Lib.hid (by by_cases hh : n ≤ 60 <;> simp [hh] <;> omega)
    go_enter Tryd.func9, Tryd.ntmps9
    go_wp2
    go_loopw [3] (fun i wr => ∃ k : Nat, k ≤ n ∧ i = .int .i64 k ∧ Hid (allMv (ys.take k) = true) ∧ Below w.heap.size w wr) (fun i _ => n - (intOf i).toNat)
    case atStart => exact ⟨0, Nat.zero_le _, rfl, by rfl, Below.refl _ _⟩
    case round =>
      obtain ⟨k, hk, rfl, hS, hB⟩ := hrel
      by_cases hlt : k < n
      · have hki : (k : Int) < (n : Int) := by omega
        have u1 := U1.out k hlt
        have u2 := U2.out k hlt
        have u3 := H16.out k
        have hc := HC.out k hlt
        rw [hS.out, Bool.true_and] at u1
        obtain ⟨y, hy⟩ : ∃ y, y = atMv ys k := ⟨_, rfl⟩
        rw [← hy] at hc u1 u2 u3
        clear hy
        obtain ⟨y0, y1, y2⟩ := y
        simp only at hc
        have d0 := (hB.cell (p := ⟨b, _, none⟩) hb).trans hc.1
        have d1 := (hB.cell (p := ⟨b, _, none⟩) hb).trans hc.2.1
        have d2 := (hB.cell (p := ⟨b, _, none⟩) hb).trans hc.2.2
        have HB := Lib.hid hB
        have HCa := Lib.hid fun wx => l07Move_any y0 y1 y2 u3 wx
        clear hB hc hS u3
        cases hok : okMv (y0, y1, y2) with
        | false =>
          rw [hok] at HCa
          have HE := Lib.hid (u2 hok)
          clear u1 u2 hok
          go_wp2_with fail
          refine (HCa.out _).mono ?_
          rintro e w2 ⟨rfl, hB⟩
          have HB2 := Lib.hid (HB.out.trans (hB.mono HB.out.size))
          clear hB
          go_wp2
          go_ret
          exact ⟨ret_bool HE.out.symm, HB2.out⟩
        | true =>
          rw [hok] at HCa
          have HE := Lib.hid (u1.trans hok)
          clear u1 u2 hok
          go_wp2_with fail
          refine (HCa.out _).mono ?_
          rintro e w2 ⟨rfl, hB⟩
          have HB2 := Lib.hid (HB.out.trans (hB.mono HB.out.size))
          clear hB
          go_wp2
          go_roundw
          case rel => exact ⟨k + 1, by omega, by go_num, HE, HB2.out⟩
          case measure => simp [intOf]; omega
      · have hkn : k = n := by omega
        subst hkn
        have HE := Lib.hid (U3.out hS.out)
        have HB := Lib.hid hB
        clear hB
        go_wp2
        go_ret
        exact ⟨ret_bool (HD.out.trans HE.out.symm), HB.out⟩
theorem okMv_parts {y0 y1 y2 : Int} (h : okMv (y0, y1, y2) = true) : ∃ a b : Nat, y0 = a ∧ y1 = b ∧ a < 3 ∧ 1 ≤ b ∧ b < 5 ∧ a ≠ b ∧ 1 ≤ y2 ∧ y2 ≤ 5000 := by
  have h' : (mayB y0 y1 && inB y2 1 5000) = true := h
  rw [Bool.and_eq_true] at h'
  obtain ⟨h1, h2⟩ := h'
  have h2 := inB_of h2
  simp only [mayB, Bool.or_eq_true, Bool.and_eq_true, beq_iff_eq] at h1
  exact ⟨y0.toNat, y1.toNat, by omega, by omega, by omega, by omega, by omega, by omega, h2.1, h2.2⟩
end Go.Proofs.YtajaiahfoknkcaaDoor
