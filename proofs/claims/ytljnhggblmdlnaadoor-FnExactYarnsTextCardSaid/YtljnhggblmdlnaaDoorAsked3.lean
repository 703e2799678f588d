/-
  No statement is proved here: what is wrong with yarns, as the program and as the document's own text tell it; condition: the errors lie where the text lays them; at most 1048576 yarns.
-/
import Derived.Test.YtljnhggblmdlnaaDoorCheck3
namespace Go.Proofs.YtljnhggblmdlnaaDoor
open Go.ChangeShapes Go.WideShapes Go.ChangeAt Go.RowKit

/-- The code of yarns, where a number is fine or not. -/
def askedF (ys : List Yn) (fine : Bool) : Int := if allY ys = true then (if fine = true then (if ys.length ≤ 10 then 0 else 3) else 2) else 1
theorem askedF_bd (ys : List Yn) (fine : Bool) : 0 ≤ askedF ys fine ∧ askedF ys fine ≤ 3 := by
  unfold askedF
  split
  · split
    · split <;> omega
    · omega
  · omega
theorem askedF_zero {ys : List Yn} {fine : Bool} (h : askedF ys fine = 0) : allY ys = true ∧ fine = true ∧ ys.length ≤ 10 := by
  unfold askedF at h
  split at h
  · rename_i h1
    split at h
    · rename_i h2
      split at h
      · exact ⟨h1, h2, by assumption⟩
      · omega
    · omega
  · omega
def two {α : Type} (a b : α) : Nat → α
  | 0 => a
  | _ => b
theorem firstNo_two (a b : Bool) (i j : Nat) : firstNo (two a b) (two i j) 2 = if a = true then (if b = true then none else some j) else some i := by
  cases a <;> cases b <;> rfl
theorem checkFew_any (p : Nat → Addr) (b cap : Nat) (x : Value) (ys : List Yn) (w : World) (hs : Sent w p) (hY : Yarns w x ys) (hn : ys.length ≤ 1048576)
    (c0 : w.cell? ⟨b, 0, none⟩ = some (.iface 56 x)) (c1 : w.cell? ⟨b, 1, none⟩ = some (.iface 57 (.int .i64 ys.length))) :
    Calls Tryd.prog 31 #[.slice (some ⟨b, 0, none⟩) 2 cap] w fun e w' => e = .returned (errV p (if allY ys = true then (if ys.length ≤ 10 then none else some 2) else some 0)) ∧ Below w.heap.size w w' := by
  refine (check_any p b 0 2 cap (two (.iface 56 x) (.iface 57 (.int .i64 ys.length))) (two (allY ys) (decide ((ys.length : Int) ≤ 10))) (two 0 2) w hs (by omega) (by omega) (World.block_lt_of_cell? w _ c0) (fun j hj => ?_) (fun j hj => ?_)).mono fun e w' ⟨he, hw⟩ => ⟨?_, hw⟩
  · match j, hj with
    | 0, _ => simpa [two] using c0
    | 1, _ => simpa [two] using c1
  · match j, hj with
    | 0, _ => exact .inl ⟨x, ys, rfl, hY, hn, rfl, rfl⟩
    | 1, _ => exact .inr (.inr (.inr ⟨_, rfl, rfl, rfl⟩))
  · rw [he, firstNo_two]
    cases allY ys with
    | false => rfl
    | true =>
      by_cases h2 : ys.length ≤ 10
      · simp [h2, show (ys.length : Int) ≤ 10 by omega]
      · simp [h2, show ¬ (ys.length : Int) ≤ 10 by omega]

set_option maxRecDepth 100000 in
set_option maxHeartbeats 2000000 in
theorem l03Asked_any (v : Value) (ys : List Yn) (fine : Bool) (w : World) (h : Yarns w v ys) (hn : ys.length ≤ 1048576) :
    Calls Tryd.prog 28 #[v, .bool fine] w fun e w' => e = .returned (.int .i64 (askedF ys fine)) ∧ Below w.heap.size w w' := by
  by_cases h0 : ys.length = 0
  · have hx : ys = [] := List.length_eq_zero_iff.1 h0
    subst hx
    obtain ⟨a, cap, rfl⟩ := h.nil
    have e : askedF [] fine = if fine = true then 0 else 2 := rfl
    rw [e]
    cases fine with
    | true =>
      go_enter Tryd.func28, Tryd.ntmps28
      go_wp2
      go_rounds 1
      go_ret
      exact ⟨rfl, Below.refl _ _⟩
    | false =>
      go_enter Tryd.func28, Tryd.ntmps28
      go_wp2
      go_rounds 1
      go_ret
      exact ⟨rfl, Below.refl _ _⟩
  · obtain ⟨b, off, cap, rfl, hb, hc⟩ := h.pos (by omega)
    have H16 := Lib.hid h.1
    have U1 := Lib.hid (allY_step ys)
    have U2 := Lib.hid (allY_no ys)
    have U3 := Lib.hid (show allY (ys.take ys.length) = allY ys by rw [List.take_length])
    have hO1 : allY ys = false → askedF ys fine = 1 := fun h => by unfold askedF; rw [h]; rfl
    have hO2 : allY ys = true → fine = false → askedF ys fine = 2 := fun h h' => by unfold askedF; rw [h, h']; rfl
    have hO3 : allY ys = true → fine = true → ys.length ≤ 10 → askedF ys fine = 0 := fun h h' h2 => by unfold askedF; rw [h, h']; simp [h2]
    have hO4 : allY ys = true → fine = true → ¬ ys.length ≤ 10 → askedF ys fine = 3 := fun h h' h2 => by unfold askedF; rw [h, h']; simp [h2]
    generalize askedF ys fine = out at *
    obtain ⟨n, hln⟩ : ∃ n, n = ys.length := ⟨_, rfl⟩
    rw [← hln] at U1 U2 U3 hc hn h0 ⊢
    have HC := Lib.hid hc
    rw [← hln] at hO3 hO4
    clear hc hln h
    obtain ⟨r, hr⟩ : ∃ r, r = allY ys := ⟨_, rfl⟩
    rw [← hr] at U2 U3 hO1 hO2 hO3 hO4
    have O1 := Lib.hid hO1
    have O2 := Lib.hid hO2
    have O3 := Lib.hid hO3
    have O4 := Lib.hid hO4
    clear hr hO1 hO2 hO3 hO4
    go_enter Tryd.func28, Tryd.ntmps28
    go_wp2
    go_loopw [5] (fun i wr => ∃ k : Nat, k ≤ n ∧ i = .int .i64 k ∧ Hid (allY (ys.take k) = true) ∧ Below w.heap.size w wr) (fun i _ => n - (intOf i).toNat)
    case atStart => exact ⟨0, Nat.zero_le _, rfl, by rfl, Below.refl _ _⟩
    case round =>
      obtain ⟨k, hk, rfl, hS, hB⟩ := hrel
      by_cases hlt : k < n
      · obtain ⟨p1, p2, p3⟩ := HC.out k hlt
        have u1 := U1.out k hlt
        have u2 := U2.out k hlt
        have u3 := H16.out k
        rw [hS.out, Bool.true_and] at u1
        obtain ⟨y, hy⟩ : ∃ y, y = yat ys k := ⟨_, rfl⟩
        rw [← hy] at p1 p2 p3 u1 u2 u3
        clear hy
        obtain ⟨y0, y1, y2⟩ := y
        simp only at p1 p2 p3
        have d1 := (hB.cell (p := ⟨b, off + k * 3, none⟩) hb).trans p1
        have d2 := (hB.cell (p := ⟨b, off + k * 3 + 1, none⟩) hb).trans p2
        have d3 := (hB.cell (p := ⟨b, off + k * 3 + 2, none⟩) hb).trans p3
        have HB := Lib.hid hB
        have HV := fun wx => l03Yarn_any y0 y1 y2 wx u3
        clear hB p1 p2 p3 u3
        cases hok : okY (y0, y1, y2) with
        | false =>
          rw [hok] at HV
          have HE := Lib.hid (u2 hok)
          have HV := Lib.hid HV
          clear u1 u2 hok
          go_wp2_with fail
          refine (HV.out _).mono ?_
          rintro e w2 ⟨rfl, hB⟩
          have B2 := Lib.hid (HB.out.trans (hB.mono HB.out.size))
          clear hB
          go_wp2
          go_ret
          exact ⟨ret_int (O1.out HE.out).symm, B2.out⟩
        | true =>
          rw [hok] at HV
          have HE := Lib.hid (u1.trans hok)
          have HV := Lib.hid HV
          clear u1 u2 hok
          go_wp2_with fail
          refine (HV.out _).mono ?_
          rintro e w2 ⟨rfl, hB⟩
          have B2 := Lib.hid (HB.out.trans (hB.mono HB.out.size))
          clear hB
          go_wp2
          go_roundw
          case rel => exact ⟨k + 1, by omega, by go_num, HE, B2.out⟩
          case measure => simp [intOf]; omega
      · have hkn : k = n := by omega
        subst hkn
        have HE := Lib.hid (U3.out.symm.trans hS.out)
        have HB := Lib.hid hB
        clear hB
        cases fine with
        | false =>
          go_wp2
          go_ret
          exact ⟨ret_int (O2.out HE.out (by simp)).symm, HB.out⟩
        | true =>
          by_cases h10 : k ≤ 10
          · go_wp2
            go_ret
            exact ⟨ret_int (O3.out HE.out (by simp) h10).symm, HB.out⟩
          · go_wp2
            go_ret
            exact ⟨ret_int (O4.out HE.out (by simp) (by omega)).symm, HB.out⟩
end Go.Proofs.YtljnhggblmdlnaaDoor
