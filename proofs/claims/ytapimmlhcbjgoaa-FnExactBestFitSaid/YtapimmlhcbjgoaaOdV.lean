/-
  No statement is proved here: lists of orders that are valid, as both texts tell them; condition: at most 1048576 of them.
-/
import Derived.Test.YtapimmlhcbjgoaaOd
import Derived.Test.YtapimmlhcbjgoaaShadeV
namespace Go.Proofs.Ytapimmlhcbjgoaa
open Go.ChangeShapes Go.WideShapes Go.ChangeAt Go.RowKit

def okOd (y : Od) : Bool := inB y.1 0 9 && inB y.2 1 5000
def allOd (ys : List Od) : Bool := ys.all okOd
def isOds (ys : List Od) : Bool := allOd ys && decide (ys.length ≤ 7)
theorem takeOd' {ys : List Od} {k : Nat} (hk : k < ys.length) : ys.take (k + 1) = ys.take k ++ [atOd ys k] := by
  rw [List.take_add_one, List.getElem?_eq_getElem hk, atOd, List.getD, List.getElem?_eq_getElem hk]
  rfl
theorem allOd_step (ys : List Od) (k : Nat) (hk : k < ys.length) : allOd (ys.take (k + 1)) = (allOd (ys.take k) && okOd (atOd ys k)) := by
  rw [takeOd' hk, allOd, List.all_append, ← allOd]
  simp
theorem allOd_no (ys : List Od) (k : Nat) (hk : k < ys.length) (h : okOd (atOd ys k) = false) : isOds ys = false := by
  have : allOd ys = false := by
    rw [allOd, List.all_eq_false]
    refine ⟨atOd ys k, ?_, by rw [h]; simp⟩
    rw [atOd, List.getD, List.getElem?_eq_getElem hk]
    exact List.getElem_mem hk
  rw [isOds, this]
  rfl
theorem allOd_get {ys : List Od} (h : allOd ys = true) (k : Nat) (hk : k < ys.length) : okOd (atOd ys k) = true := by
  rw [allOd, List.all_eq_true] at h
  refine h _ ?_
  rw [atOd, List.getD, List.getElem?_eq_getElem hk]
  exact List.getElem_mem hk
theorem isOds_of {ys : List Od} (h : isOds ys = true) : allOd ys = true ∧ ys.length ≤ 7 := by
  rw [isOds, Bool.and_eq_true] at h
  exact ⟨h.1, of_decide_eq_true h.2⟩
theorem isOds_nil : isOds [] = true := by decide
theorem okOd_1 {y0 y1 : Int} (h : (inB y0 0 9) = false) : okOd (y0, y1) = false := by show ((inB y0 0 9) && _) = false; rw [h]; rfl
theorem okOd_2 {y0 y1 : Int} (h : y1 < 1 ∨ 5000 < y1) : okOd (y0, y1) = false := by show (_ && inB y1 1 5000) = false; rw [inB_mkno h]; simp
theorem okOd_3 {y0 y1 : Int} (h : (inB y0 0 9) = true) (h1 : ¬ y1 < 1) (h2 : ¬ 5000 < y1) : okOd (y0, y1) = true := by show ((inB y0 0 9) && inB y1 1 5000) = true; rw [h, inB_mk (by omega)]; rfl

set_option maxRecDepth 100000 in
set_option maxHeartbeats 4000000 in
theorem implOds_any (v : Value) (ys : List Od) (w : World) (h : Ods w v ys) (hn : ys.length ≤ 1048576) :
    Calls Try.prog 33 #[v] w fun e w' => e = .returned (.bool (isOds ys)) ∧ Below w.heap.size w w' := by
  by_cases hm : ys.length ≤ 7
  rotate_left
  · have hr : isOds ys = false := by rw [isOds, decide_eq_false hm, Bool.and_false]
    rw [hr]
    obtain ⟨a, cap, rfl⟩ := h.len
    have hgt : (7 : Int) < (ys.length : Int) := by omega
    clear h hr
    generalize ys.length = n at *
    go_enter Try.func33, Try.ntmps33
    go_wp2
    go_ret
    exact ⟨rfl, Below.refl _ _⟩
  have hgt : ¬ (7 : Int) < (ys.length : Int) := by omega
  by_cases h0 : ys.length = 0
  · have hx : ys = [] := List.length_eq_zero_iff.1 h0
    subst hx
    obtain ⟨a, cap, rfl⟩ := h.nil
    go_enter Try.func33, Try.ntmps33
    go_wp2
    go_rounds 1
    go_ret
    exact ⟨rfl, Below.refl _ _⟩
  · have hdm := Lib.hid (decide_eq_true hm)
    obtain ⟨b, off, cap, rfl, hb, hc⟩ := h.pos (by omega)
    have H16 := Lib.hid h.1
    have U1 := Lib.hid (allOd_step ys)
    have U2 := Lib.hid (allOd_no ys)
    have U3 := Lib.hid (show allOd (ys.take ys.length) = true → isOds ys = decide (ys.length ≤ 7) by rw [List.take_length]; intro h; rw [isOds, h]; rfl)
    obtain ⟨n, hln⟩ : ∃ n, n = ys.length := ⟨_, rfl⟩
    rw [← hln] at U1 U2 U3 hc hn h0 hm hdm hgt ⊢
    have HC := Lib.hid hc
    clear hc hln h
    obtain ⟨r, hr⟩ : ∃ r, r = isOds ys := ⟨_, rfl⟩
    rw [← hr] at U2 U3 ⊢
    clear hr
    go_enter Try.func33, Try.ntmps33
    go_wp2
    go_loopw [10] (fun i wr => ∃ k : Nat, k ≤ n ∧ i = .int .i64 k ∧ Hid (allOd (ys.take k) = true) ∧ Below w.heap.size w wr) (fun i _ => n - (intOf i).toNat)
    case atStart => exact ⟨0, Nat.zero_le _, rfl, by rfl, Below.refl _ _⟩
    case round =>
      obtain ⟨k, hk, rfl, hS, hB⟩ := hrel
      by_cases hlt : k < n
      · skip
        have u1 := U1.out k hlt
        have u2 := U2.out k hlt
        have u3 := H16.out k
        have hc := HC.out k hlt
        rw [hS.out, Bool.true_and] at u1
        obtain ⟨y, hy⟩ : ∃ y, y = atOd ys k := ⟨_, rfl⟩
        rw [← hy] at hc u1 u2 u3
        clear hy
        obtain ⟨y0, y1⟩ := y
        simp only at hc
        have d0 := (hB.cell (p := ⟨b, _, none⟩) hb).trans hc.1
        have d1 := (hB.cell (p := ⟨b, _, none⟩) hb).trans hc.2
        have HB := Lib.hid hB
        have HCa := Lib.hid fun wx => implShade_any y0 wx
        obtain ⟨⟨s0, t0⟩, ⟨s1, t1⟩⟩ := u3
        simp only at s0 t0 s1 t1
        clear hB hc hS
        cases hok : inB y0 0 9 with
        | false =>
          rw [hok] at HCa
          have HE := Lib.hid (u2 (okOd_1 hok))
          clear u1 u2 hok
          go_wp2_with fail
          refine (HCa.out _).mono ?_
          rintro e w2 ⟨rfl, rfl⟩
          go_wp2
          go_ret
          exact ⟨ret_bool HE.out.symm, HB.out.trans ((show Below wr.heap.size wr _ by go_grown).mono HB.out.size)⟩
        | true =>
          rw [hok] at HCa
          by_cases hlo : y1 < 1
          · have HE := Lib.hid (u2 (okOd_2 (.inl hlo)))
            clear u1 u2 hok
            go_wp2_with fail
            refine (HCa.out _).mono ?_
            rintro e w2 ⟨rfl, rfl⟩
            go_wp2
            go_ret
            exact ⟨ret_bool HE.out.symm, HB.out.trans ((show Below wr.heap.size wr _ by go_grown).mono HB.out.size)⟩
          · by_cases hhi : 5000 < y1
            · have HE := Lib.hid (u2 (okOd_2 (.inr hhi)))
              clear u1 u2 hok
              go_wp2_with fail
              refine (HCa.out _).mono ?_
              rintro e w2 ⟨rfl, rfl⟩
              go_wp2
              go_ret
              exact ⟨ret_bool HE.out.symm, HB.out.trans ((show Below wr.heap.size wr _ by go_grown).mono HB.out.size)⟩
            · have HE := Lib.hid (u1.trans (okOd_3 hok hlo hhi))
              clear u1 u2 hok
              go_wp2_with fail
              refine (HCa.out _).mono ?_
              rintro e w2 ⟨rfl, rfl⟩
              go_wp2
              go_roundw
              case rel => exact ⟨k + 1, by omega, by go_num, HE, HB.out.trans ((show Below wr.heap.size wr _ by go_grown).mono HB.out.size)⟩
              case measure => simp [intOf]; omega
      · have hkn : k = n := by omega
        subst hkn
        have HE := Lib.hid ((U3.out hS.out).trans hdm.out)
        have HB := Lib.hid hB
        clear hB
        go_wp2
        go_ret
        exact ⟨ret_bool HE.out.symm, HB.out⟩

set_option maxRecDepth 100000 in
set_option maxHeartbeats 4000000 in
theorem specOds0_any (v : Value) (ys : List Od) (w : World) (h : Ods w v ys) (hn : ys.length ≤ 1048576) :
    Calls Try.prog 21 #[v] w fun e w' => e = .returned (.bool (isOds ys)) ∧ Below w.heap.size w w' := by
  by_cases h0 : ys.length = 0
  · have hx : ys = [] := List.length_eq_zero_iff.1 h0
    subst hx
    obtain ⟨a, cap, rfl⟩ := h.nil
    go_enter Try.func21, Try.ntmps21
    go_wp2
    go_rounds 1
    go_ret
    exact ⟨rfl, Below.refl _ _⟩
  · have hm : True := trivial
    obtain ⟨b, off, cap, rfl, hb, hc⟩ := h.pos (by omega)
    have H16 := Lib.hid h.1
    have U1 := Lib.hid (allOd_step ys)
    have U2 := Lib.hid (allOd_no ys)
    have U3 := Lib.hid (show allOd (ys.take ys.length) = true → isOds ys = decide (ys.length ≤ 7) by rw [List.take_length]; intro h; rw [isOds, h]; rfl)
    obtain ⟨n, hln⟩ : ∃ n, n = ys.length := ⟨_, rfl⟩
    rw [← hln] at U1 U2 U3 hc hn h0 ⊢
    have HC := Lib.hid hc
    clear hc hln h
    obtain ⟨r, hr⟩ : ∃ r, r = isOds ys := ⟨_, rfl⟩
    rw [← hr] at U2 U3 ⊢
    clear hr
    have HD : Hid (decide ((n : Int) ≤ 7) = decide (n ≤ 7)) := Lib.hid (by by_cases hh : n ≤ 7 <;> simp [hh] <;> omega)
    go_enter Try.func21, Try.ntmps21
    go_wp2
    go_loopw [3] (fun i wr => ∃ k : Nat, k ≤ n ∧ i = .int .i64 k ∧ Hid (allOd (ys.take k) = true) ∧ Below w.heap.size w wr) (fun i _ => n - (intOf i).toNat)
    case atStart => exact ⟨0, Nat.zero_le _, rfl, by rfl, Below.refl _ _⟩
    case round =>
      obtain ⟨k, hk, rfl, hS, hB⟩ := hrel
      by_cases hlt : k < n
      · have hki : (k : Int) < (n : Int) := by omega
        have u1 := U1.out k hlt
        have u2 := U2.out k hlt
        have u3 := H16.out k
        have hc := HC.out k hlt
        rw [hS.out, Bool.true_and] at u1
        obtain ⟨y, hy⟩ : ∃ y, y = atOd ys k := ⟨_, rfl⟩
        rw [← hy] at hc u1 u2 u3
        clear hy
        obtain ⟨y0, y1⟩ := y
        simp only at hc
        have d0 := (hB.cell (p := ⟨b, _, none⟩) hb).trans hc.1
        have d1 := (hB.cell (p := ⟨b, _, none⟩) hb).trans hc.2
        have HB := Lib.hid hB
        have HCa := Lib.hid fun wx => specShade_any y0 wx
        have HI := Lib.hid fun wx => in_any y1 1 5000 wx
        have r1 := u3.2.1
        have r2 := u3.2.2
        simp only at r1 r2
        clear hB hc hS u3
        cases hok : inB y0 0 9 with
        | false =>
          rw [hok] at HCa
          have HE := Lib.hid (u2 (okOd_1 hok))
          clear u1 u2 hok
          go_wp2_with fail
          refine (HCa.out _).mono ?_
          rintro e w2 ⟨rfl, rfl⟩
          go_wp2
          go_ret
          exact ⟨ret_bool HE.out.symm, HB.out⟩
        | true =>
          rw [hok] at HCa
          cases hin : inB y1 1 5000 with
          | false =>
            rw [hin] at HI
            have HE := Lib.hid (u2 (okOd_2 (inB_no hin)))
            clear u1 u2 hok hin
            go_wp2_with fail
            refine (HCa.out _).mono ?_
            rintro e w2 ⟨rfl, rfl⟩
            go_wp2_with fail
            refine (HI.out _).mono ?_
            rintro e w2 ⟨rfl, rfl⟩
            go_wp2
            go_ret
            exact ⟨ret_bool HE.out.symm, HB.out⟩
          | true =>
            rw [hin] at HI
            have HE := Lib.hid (u1.trans (okOd_3 hok (by have := inB_of hin; omega) (by have := inB_of hin; omega)))
            clear u1 u2 hok hin
            go_wp2_with fail
            refine (HCa.out _).mono ?_
            rintro e w2 ⟨rfl, rfl⟩
            go_wp2_with fail
            refine (HI.out _).mono ?_
            rintro e w2 ⟨rfl, rfl⟩
            go_wp2
            go_roundw
            case rel => exact ⟨k + 1, by omega, by go_num, HE, HB.out⟩
            case measure => simp [intOf]; omega
      · have hkn : k = n := by omega
        subst hkn
        have HE := Lib.hid (U3.out hS.out)
        have HB := Lib.hid hB
        clear hB
        go_wp2
        go_ret
        exact ⟨ret_bool (HD.out.trans HE.out.symm), HB.out⟩
end Go.Proofs.Ytapimmlhcbjgoaa
