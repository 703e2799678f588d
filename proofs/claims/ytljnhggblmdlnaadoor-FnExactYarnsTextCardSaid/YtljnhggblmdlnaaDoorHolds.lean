/-
  No statement is proved here: what the program asks of its arguments (yarns that are valid, a number within bounds, lengths, how many), each by its own method; condition: at most 1048576 elements.
-/
import Derived.Test.YtljnhggblmdlnaaDoorYnOk
import Derived.Test.YtljnhggblmdlnaaDoorInts
import Derived.Test.YtljnhggblmdlnaaDoorIntsEq
namespace Go.Proofs.YtljnhggblmdlnaaDoor
open Go.ChangeShapes Go.WideShapes Go.ChangeAt Go.RowKit

/-- All yarns are valid. -/
def allY (ys : List Yn) : Bool := ys.all okY
theorem takeY {ys : List Yn} {k : Nat} (hk : k < ys.length) : ys.take (k + 1) = ys.take k ++ [yat ys k] := by
  rw [List.take_add_one, List.getElem?_eq_getElem hk, yat, List.getD, List.getElem?_eq_getElem hk]
  rfl
theorem allY_step (ys : List Yn) (k : Nat) (hk : k < ys.length) : allY (ys.take (k + 1)) = (allY (ys.take k) && okY (yat ys k)) := by
  rw [takeY hk, allY, List.all_append, ← allY]
  simp
theorem allY_no (ys : List Yn) (k : Nat) (hk : k < ys.length) (h : okY (yat ys k) = false) : allY ys = false := by
  rw [allY, List.all_eq_false]
  refine ⟨yat ys k, ?_, by rw [h]; simp⟩
  rw [yat, List.getD, List.getElem?_eq_getElem hk]
  exact List.getElem_mem hk
theorem allY_get {ys : List Yn} (h : allY ys = true) (k : Nat) (hk : k < ys.length) : okY (yat ys k) = true := by
  rw [allY, List.all_eq_true] at h
  refine h _ ?_
  rw [yat, List.getD, List.getElem?_eq_getElem hk]
  exact List.getElem_mem hk
/-- Lengths that a yarn can have. -/
def allL (zs : List Int) : Bool := zs.all fun z => inB z 1 5000
theorem takeL {zs : List Int} {k : Nat} (hk : k < zs.length) : zs.take (k + 1) = zs.take k ++ [zs.getD k 0] := by
  rw [List.take_add_one, List.getElem?_eq_getElem hk, List.getD, List.getElem?_eq_getElem hk]
  rfl
theorem allL_step (zs : List Int) (k : Nat) (hk : k < zs.length) : allL (zs.take (k + 1)) = (allL (zs.take k) && inB (zs.getD k 0) 1 5000) := by
  rw [takeL hk, allL, List.all_append, ← allL]
  simp
theorem allL_no (zs : List Int) (k : Nat) (hk : k < zs.length) (h : inB (zs.getD k 0) 1 5000 = false) : allL zs = false := by
  rw [allL, List.all_eq_false]
  refine ⟨zs.getD k 0, ?_, by rw [h]; simp⟩
  rw [List.getD, List.getElem?_eq_getElem hk]
  exact List.getElem_mem hk
theorem allL_get {zs : List Int} (h : allL zs = true) (k : Nat) (hk : k < zs.length) : 1 ≤ zs.getD k 0 ∧ zs.getD k 0 ≤ 5000 := by
  rw [allL, List.all_eq_true] at h
  refine inB_of (h _ ?_)
  rw [List.getD, List.getElem?_eq_getElem hk]
  exact List.getElem_mem hk

set_option maxHeartbeats 1000000 in
theorem withinHolds (n lo hi : Int) (w : World) :
    Calls Tryd.prog 108 #[.agg #[.int .i64 n, .int .i64 lo, .int .i64 hi]] w fun e w' => e = .returned (.bool (inB n lo hi)) ∧ Below w.heap.size w w' := by
  by_cases h1 : lo ≤ n
  · by_cases h2 : n ≤ hi
    · rw [inB_mk ⟨h1, h2⟩]
      go_enter Tryd.func108, Tryd.ntmps108
      go_wp2
      go_ret
      exact ⟨rfl, by go_grown⟩
    · rw [inB_mkno (.inr (by omega))]
      go_enter Tryd.func108, Tryd.ntmps108
      go_wp2
      go_ret
      exact ⟨rfl, by go_grown⟩
  · rw [inB_mkno (.inl (by omega))]
    go_enter Tryd.func108, Tryd.ntmps108
    go_wp2
    go_ret
    exact ⟨rfl, by go_grown⟩

theorem fewHolds (n : Int) (w : World) :
    Calls Tryd.prog 106 #[.int .i64 n] w fun e w' => e = .returned (.bool (decide (n ≤ 10))) ∧ Below w.heap.size w w' := by
  go_enter Tryd.func106, Tryd.ntmps106
  go_wp2
  go_ret
  exact ⟨rfl, Below.refl _ _⟩

set_option maxRecDepth 100000 in
set_option maxHeartbeats 2000000 in
theorem yarnsHolds (v : Value) (ys : List Yn) (w : World) (h : Yarns w v ys) (hn : ys.length ≤ 1048576) :
    Calls Tryd.prog 101 #[v] w fun e w' => e = .returned (.bool (allY ys)) ∧ Below w.heap.size w w' := by
  by_cases h0 : ys.length = 0
  · have hx : ys = [] := List.length_eq_zero_iff.1 h0
    subst hx
    obtain ⟨a, cap, rfl⟩ := h.nil
    go_enter Tryd.func101, Tryd.ntmps101
    go_wp2
    go_rounds 1
    go_ret
    exact ⟨rfl, Below.refl _ _⟩
  · obtain ⟨b, off, cap, rfl, hb, hc⟩ := h.pos (by omega)
    have H16 := Lib.hid h.1
    have U1 := Lib.hid (allY_step ys)
    have U2 := Lib.hid (allY_no ys)
    have U3 := Lib.hid (show allY (ys.take ys.length) = allY ys by rw [List.take_length])
    obtain ⟨n, hln⟩ : ∃ n, n = ys.length := ⟨_, rfl⟩
    rw [← hln] at U1 U2 U3 hc hn h0 ⊢
    have HC := Lib.hid hc
    clear hc hln h
    obtain ⟨r, hr⟩ : ∃ r, r = allY ys := ⟨_, rfl⟩
    rw [← hr] at U2 U3 ⊢
    clear hr
    go_enter Tryd.func101, Tryd.ntmps101
    go_wp2
    go_loopw [7] (fun i wr => ∃ k : Nat, k ≤ n ∧ i = .int .i64 k ∧ Hid (allY (ys.take k) = true) ∧ Below w.heap.size w wr) (fun i _ => n - (intOf i).toNat)
    case atStart => exact ⟨0, Nat.zero_le _, rfl, by rfl, Below.refl _ _⟩
    case round =>
      obtain ⟨k, hk, rfl, hS, hB⟩ := hrel
      by_cases hlt : k < n
      · obtain ⟨p1, p2, p3⟩ := HC.out k hlt
        have u1 := U1.out k hlt
        have u2 := U2.out k hlt
        have u3 := H16.out k
        rw [hS.out, Bool.true_and] at u1
        obtain ⟨y, hy⟩ : ∃ y, y = yat ys k := ⟨_, rfl⟩
        rw [← hy] at p1 p2 p3 u1 u2 u3
        clear hy
        obtain ⟨y0, y1, y2⟩ := y
        simp only at p1 p2 p3
        have d1 := (hB.cell (p := ⟨b, off + k * 3, none⟩) hb).trans p1
        have d2 := (hB.cell (p := ⟨b, off + k * 3 + 1, none⟩) hb).trans p2
        have d3 := (hB.cell (p := ⟨b, off + k * 3 + 2, none⟩) hb).trans p3
        have HB := Lib.hid hB
        have HV := fun wx => validYarn_any y0 y1 y2 wx u3
        clear hB p1 p2 p3 u3
        cases hok : okY (y0, y1, y2) with
        | false =>
          rw [hok] at HV
          have HE := Lib.hid (u2 hok)
          have HV := Lib.hid HV
          clear u1 u2 hok
          go_wp2_with fail
          refine (HV.out _).mono ?_
          rintro e w2 ⟨rfl, hB⟩
          have B2 := Lib.hid ((HB.out.alloc HB.out.size _).trans (hB.mono (by have := HB.out.size; simp; omega)))
          clear hB
          go_wp2
          go_ret
          exact ⟨ret_bool HE.out.symm, B2.out⟩
        | true =>
          rw [hok] at HV
          have HE := Lib.hid (u1.trans hok)
          have HV := Lib.hid HV
          clear u1 u2 hok
          go_wp2_with fail
          refine (HV.out _).mono ?_
          rintro e w2 ⟨rfl, hB⟩
          have B2 := Lib.hid ((HB.out.alloc HB.out.size _).trans (hB.mono (by have := HB.out.size; simp; omega)))
          clear hB
          go_wp2
          go_roundw
          case rel => exact ⟨k + 1, by omega, by go_num, HE, B2.out⟩
          case measure => simp [intOf]; omega
      · have hkn : k = n := by omega
        subst hkn
        have HE := Lib.hid (U3.out.symm.trans hS.out)
        have HB := Lib.hid hB
        clear hB
        go_wp2
        go_ret
        exact ⟨ret_bool HE.out.symm, HB.out⟩

set_option maxRecDepth 100000 in
set_option maxHeartbeats 2000000 in
theorem lengthsHolds (v : Value) (zs : List Int) (w : World) (h : Ints w v zs) (hn : zs.length ≤ 1048576) :
    Calls Tryd.prog 109 #[v] w fun e w' => e = .returned (.bool (allL zs)) ∧ Below w.heap.size w w' := by
  by_cases h0 : zs.length = 0
  · have hx : zs = [] := List.length_eq_zero_iff.1 h0
    subst hx
    obtain ⟨a1, c1, rfl⟩ := h.nil
    go_enter Tryd.func109, Tryd.ntmps109
    go_wp2
    go_rounds 1
    go_ret
    exact ⟨rfl, Below.refl _ _⟩
  · obtain ⟨b1, o1, c1, rfl, hc1⟩ := h.pos (by omega)
    have U1 := Lib.hid (allL_step zs)
    have U2 := Lib.hid (allL_no zs)
    have U3 := Lib.hid (show allL (zs.take zs.length) = allL zs by rw [List.take_length])
    obtain ⟨n, hln⟩ : ∃ n, n = zs.length := ⟨_, rfl⟩
    rw [← hln] at U1 U2 U3 hc1 hn h0 ⊢
    have HC := Lib.hid hc1
    clear hc1 hln h
    obtain ⟨r, hr⟩ : ∃ r, r = allL zs := ⟨_, rfl⟩
    rw [← hr] at U2 U3 ⊢
    clear hr
    go_enter Tryd.func109, Tryd.ntmps109
    go_wp2
    go_loop [7] (fun i => ∃ k : Nat, k ≤ n ∧ i = .int .i64 k ∧ Hid (allL (zs.take k) = true)) (fun i => n - (intOf i).toNat)
    case atStart => exact ⟨0, Nat.zero_le _, rfl, by rfl⟩
    case round =>
      obtain ⟨k, hk, rfl, hS⟩ := hrel
      by_cases hlt : k < n
      · have c1 : w.cell? ⟨b1, o1 + k, none⟩ = some (.int .i64 (zs.getD k 0)) := HC.out k hlt
        have u1 := U1.out k hlt
        have u2 := U2.out k hlt
        rw [hS.out, Bool.true_and] at u1
        obtain ⟨z, hz⟩ : ∃ z, z = zs.getD k 0 := ⟨_, rfl⟩
        rw [← hz] at c1 u1 u2
        clear hz
        by_cases h1 : z < 1
        · have HE := Lib.hid (u2 (inB_mkno (.inl h1)))
          clear u1 u2
          go_wp2
          go_ret
          exact ⟨ret_bool HE.out.symm, Below.refl _ _⟩
        · by_cases h2 : 5000 < z
          · have HE := Lib.hid (u2 (inB_mkno (.inr h2)))
            clear u1 u2
            go_wp2
            go_ret
            exact ⟨ret_bool HE.out.symm, Below.refl _ _⟩
          · have HE := Lib.hid (u1.trans (inB_mk ⟨by omega, by omega⟩))
            clear u1 u2
            go_wp2
            go_round
            case rel => exact ⟨k + 1, by omega, by go_num, HE⟩
            case measure => simp [intOf]; omega
      · have hkn : k = n := by omega
        subst hkn
        have HE := Lib.hid (U3.out.symm.trans hS.out)
        go_wp2
        go_ret
        exact ⟨ret_bool HE.out.symm, Below.refl _ _⟩
end Go.Proofs.YtljnhggblmdlnaaDoor
