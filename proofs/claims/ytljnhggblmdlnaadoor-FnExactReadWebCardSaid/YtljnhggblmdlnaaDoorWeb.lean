/-
  No statement is proved here: which webs are valid, as the program and as the document's own text tell it, and the total of one; condition: at most 1048576 stripes.
-/
import Derived.Test.YtljnhggblmdlnaaDoorIn
import Derived.Test.YtljnhggblmdlnaaDoorIntsMark
namespace Go.Proofs.YtljnhggblmdlnaaDoor
open Go.ChangeShapes Go.WideShapes Go.ChangeAt Go.RowKit

/-- All numbers lie from 0 to most. -/
def upTo (zs : List Int) (most : Int) : Bool := zs.all fun z => inB z 0 most
theorem take_step {zs : List Int} {k : Nat} (hk : k < zs.length) : zs.take (k + 1) = zs.take k ++ [zs.getD k 0] := by
  rw [List.take_add_one, List.getElem?_eq_getElem hk, List.getD, List.getElem?_eq_getElem hk]
  rfl
theorem upTo_step (zs : List Int) (m : Int) (k : Nat) (hk : k < zs.length) : upTo (zs.take (k + 1)) m = (upTo (zs.take k) m && inB (zs.getD k 0) 0 m) := by
  rw [take_step hk, upTo, List.all_append, ← upTo]
  simp
theorem upTo_no (zs : List Int) (m : Int) (k : Nat) (hk : k < zs.length) (h : inB (zs.getD k 0) 0 m = false) : upTo zs m = false := by
  rw [upTo, List.all_eq_false]
  refine ⟨zs.getD k 0, ?_, by rw [h]; simp⟩
  rw [List.getD, List.getElem?_eq_getElem hk]
  exact List.getElem_mem hk
theorem upTo_all (zs : List Int) (m : Int) : upTo (zs.take zs.length) m = upTo zs m := by rw [List.take_length]
theorem upTo_get {zs : List Int} {m : Int} (h : upTo zs m = true) (k : Nat) (hk : k < zs.length) : 0 ≤ zs.getD k 0 ∧ zs.getD k 0 ≤ m := by
  rw [upTo, List.all_eq_true] at h
  refine inB_of (h _ ?_)
  rw [List.getD, List.getElem?_eq_getElem hk]
  exact List.getElem_mem hk

/-- Which webs are valid. -/
def okW (zs : List Int) : Bool := inB (zs.length : Int) 2 12 && (decide ((zs.length : Int) % 2 = 0) && upTo zs 10000)
theorem okW_len {zs : List Int} (h : okW zs = true) : 2 ≤ zs.length ∧ zs.length ≤ 12 ∧ zs.length % 2 = 0 := by
  simp only [okW, Bool.and_eq_true, decide_eq_true_eq] at h
  have := inB_of h.1
  omega
theorem okW_up {zs : List Int} (h : okW zs = true) : upTo zs 10000 = true := by
  simp only [okW, Bool.and_eq_true, decide_eq_true_eq] at h
  exact h.2.2
theorem okW_get {zs : List Int} (h : okW zs = true) (k : Nat) (hk : k < zs.length) : 0 ≤ zs.getD k 0 ∧ zs.getD k 0 ≤ 10000 := upTo_get (okW_up h) k hk

set_option maxRecDepth 100000 in
set_option maxHeartbeats 1000000 in
theorem areUp_any (v : Value) (zs : List Int) (m : Int) (w : World) (h : Ints w v zs) (hn : zs.length ≤ 1048576) :
    Calls Tryd.prog 36 #[v, .int .i64 m] w fun e w' => e = .returned (.bool (upTo zs m)) ∧ w = w' := by
  by_cases h0 : zs.length = 0
  · have hx : zs = [] := List.length_eq_zero_iff.1 h0
    subst hx
    obtain ⟨a1, c1, rfl⟩ := h.nil
    go_enter Tryd.func36, Tryd.ntmps36
    go_wp2
    go_rounds 1
    go_ret
    exact ⟨rfl, rfl⟩
  · obtain ⟨b1, o1, c1, rfl, hc1⟩ := h.pos (by omega)
    have U1 := Lib.hid (upTo_step zs m)
    have U2 := Lib.hid (upTo_no zs m)
    have U3 := Lib.hid (upTo_all zs m)
    obtain ⟨n, hln⟩ : ∃ n, n = zs.length := ⟨_, rfl⟩
    rw [← hln] at U1 U2 U3 hc1 hn h0 ⊢
    have HC := Lib.hid hc1
    clear hc1 hln h
    go_enter Tryd.func36, Tryd.ntmps36
    go_wp2
    go_loop [9] (fun i => ∃ k : Nat, k ≤ n ∧ i = .int .i64 k ∧ Hid (upTo (zs.take k) m = true)) (fun i => n - (intOf i).toNat)
    case atStart => exact ⟨0, Nat.zero_le _, rfl, by rfl⟩
    case round =>
      obtain ⟨k, hk, rfl, hS⟩ := hrel
      by_cases hlt : k < n
      · have c1 : w.cell? ⟨b1, o1 + k, none⟩ = some (.int .i64 (zs.getD k 0)) := HC.out k hlt
        have u1 := U1.out k hlt
        have u2 := U2.out k hlt
        rw [hS.out, Bool.true_and] at u1
        obtain ⟨z, hz⟩ : ∃ z, z = zs.getD k 0 := ⟨_, rfl⟩
        rw [← hz] at c1 u1 u2
        clear hz
        by_cases h1 : z < 0
        · have HE := Lib.hid (u2 (inB_mkno (.inl h1)))
          clear u1 u2
          go_wp2
          go_ret
          exact ⟨ret_bool HE.out.symm, rfl⟩
        · by_cases h2 : m < z
          · have HE := Lib.hid (u2 (inB_mkno (.inr h2)))
            clear u1 u2
            go_wp2
            go_ret
            exact ⟨ret_bool HE.out.symm, rfl⟩
          · have HE := Lib.hid (u1.trans (inB_mk ⟨by omega, by omega⟩))
            clear u1 u2
            go_wp2
            go_round
            case rel => exact ⟨k + 1, by omega, by go_num, HE⟩
            case measure => simp [intOf]; omega
      · have hkn : k = n := by omega
        subst hkn
        have HE := Lib.hid (U3.out.symm.trans hS.out)
        go_wp2
        go_ret
        exact ⟨ret_bool HE.out.symm, rfl⟩

set_option maxRecDepth 100000 in
set_option maxHeartbeats 1000000 in
theorem l02Ok_any (v : Value) (zs : List Int) (w : World) (h : Ints w v zs) (hn : zs.length ≤ 1048576) :
    Calls Tryd.prog 19 #[v] w fun e w' => e = .returned (.bool (okW zs)) ∧ w = w' := by
  by_cases h0 : zs.length = 0
  · have hx : zs = [] := List.length_eq_zero_iff.1 h0
    subst hx
    obtain ⟨a1, c1, rfl⟩ := h.nil
    go_enter Tryd.func19, Tryd.ntmps19
    go_wp2
    go_rounds 1
    go_ret
    exact ⟨rfl, rfl⟩
  · obtain ⟨b1, o1, c1, rfl, hc1⟩ := h.pos (by omega)
    have U1 := Lib.hid (upTo_step zs 10000)
    have U2 := Lib.hid (upTo_no zs 10000)
    have U3 := Lib.hid (upTo_all zs 10000)
    unfold okW
    obtain ⟨n, hln⟩ : ∃ n, n = zs.length := ⟨_, rfl⟩
    rw [← hln] at U1 U2 U3 hc1 hn h0 ⊢
    have HC := Lib.hid hc1
    clear hc1 hln h
    obtain ⟨r, hr⟩ : ∃ r, r = upTo zs 10000 := ⟨_, rfl⟩
    rw [← hr] at U2 U3 ⊢
    clear hr
    go_enter Tryd.func19, Tryd.ntmps19
    go_wp2
    go_loop [3] (fun i => ∃ k : Nat, k ≤ n ∧ i = .int .i64 k ∧ Hid (upTo (zs.take k) 10000 = true)) (fun i => n - (intOf i).toNat)
    case atStart => exact ⟨0, Nat.zero_le _, rfl, by rfl⟩
    case round =>
      obtain ⟨k, hk, rfl, hS⟩ := hrel
      by_cases hlt : k < n
      · have c1 : w.cell? ⟨b1, o1 + k, none⟩ = some (.int .i64 (zs.getD k 0)) := HC.out k hlt
        have u1 := U1.out k hlt
        have u2 := U2.out k hlt
        rw [hS.out, Bool.true_and] at u1
        obtain ⟨z, hz⟩ : ∃ z, z = zs.getD k 0 := ⟨_, rfl⟩
        rw [← hz] at c1 u1 u2
        clear hz
        have hin := in_any z 0 10000 w
        cases hb : inB z 0 10000 with
        | false =>
          have HE := Lib.hid (u2 hb)
          rw [hb] at hin
          have HI := Lib.hid hin
          clear u1 u2 hb hin
          go_wp2_with fail
          refine HI.out.mono ?_
          rintro e w' ⟨rfl, rfl⟩
          go_wp2
          go_ret
          exact ⟨ret_bool (by rw [HE.out]; simp), rfl⟩
        | true =>
          have HE := Lib.hid (u1.trans hb)
          rw [hb] at hin
          have HI := Lib.hid hin
          clear u1 u2 hb hin
          go_wp2_with fail
          refine HI.out.mono ?_
          rintro e w' ⟨rfl, rfl⟩
          go_wp2
          go_round
          case rel => exact ⟨k + 1, by omega, by go_num, HE⟩
          case measure => simp [intOf]; omega
      · have hkn : k = n := by omega
        subst hkn
        have HE := Lib.hid (U3.out.symm.trans hS.out)
        have hin := in_any (k : Int) 2 12 w
        cases hb : inB (k : Int) 2 12 with
        | false =>
          rw [hb] at hin
          have HI := Lib.hid hin
          have HB2 := Lib.hid hb
          clear hin hb
          go_wp2_with fail
          refine HI.out.mono ?_
          rintro e w' ⟨rfl, rfl⟩
          go_wp2
          go_ret
          exact ⟨ret_bool (by rw [HB2.out]; simp), rfl⟩
        | true =>
          rw [hb] at hin
          have HI := Lib.hid hin
          have HB2 := Lib.hid hb
          clear hin hb
          by_cases hev : k % 2 = 0
          · have he : ((k : Int).tmod 2 == 0) = true := by
              have : (k : Int).tmod 2 = 0 := by rw [Int.tmod_eq_emod_of_nonneg (by omega)]; omega
              simp [this]
            have hd : decide ((k : Int) % 2 = 0) = true := decide_eq_true (by omega)
            have HD := Lib.hid hd
            clear hd
            go_wp2_with fail
            refine HI.out.mono ?_
            rintro e w' ⟨rfl, rfl⟩
            go_wp2
            go_ret
            exact ⟨ret_bool (by rw [HB2.out, HD.out, HE.out]; simp; omega), rfl⟩
          · have he : ((k : Int).tmod 2 == 0) = false := by
              have : ¬ (k : Int).tmod 2 = 0 := by rw [Int.tmod_eq_emod_of_nonneg (by omega)]; omega
              simp [this]
            have hd : decide ((k : Int) % 2 = 0) = false := decide_eq_false (by omega)
            have HD := Lib.hid hd
            clear hd
            go_wp2_with fail
            refine HI.out.mono ?_
            rintro e w' ⟨rfl, rfl⟩
            go_wp2
            go_ret
            exact ⟨ret_bool (by rw [HB2.out, HD.out]; simp; omega), rfl⟩

set_option maxRecDepth 100000 in
set_option maxHeartbeats 1000000 in
theorem valid_any (v : Value) (zs : List Int) (w : World) (h : Ints w v zs) (hn : zs.length ≤ 1048576) :
    Calls Tryd.prog 21 #[v] w fun e w' => e = .returned (.bool (okW zs)) ∧ w = w' := by
  obtain ⟨a1, c1, rfl⟩ := h.len
  have hin := Lib.hid (areUp_any _ zs 10000 w h hn)
  clear h
  unfold okW
  obtain ⟨n, hln⟩ : ∃ n, n = zs.length := ⟨_, rfl⟩
  rw [← hln] at hn hin ⊢
  clear hln
  by_cases h1 : n < 2
  · have hb := Lib.hid (inB_mkno (n := (n : Int)) (lo := 2) (hi := 12) (by omega))
    go_enter Tryd.func21, Tryd.ntmps21
    go_wp2_with fail
    go_ret
    exact ⟨ret_bool (by rw [hb.out]; simp), rfl⟩
  · by_cases h2 : 12 < n
    · have hb := Lib.hid (inB_mkno (n := (n : Int)) (lo := 2) (hi := 12) (by omega))
      go_enter Tryd.func21, Tryd.ntmps21
      go_wp2_with fail
      go_ret
      exact ⟨ret_bool (by rw [hb.out]; simp), rfl⟩
    · have hb := Lib.hid (inB_mk (n := (n : Int)) (lo := 2) (hi := 12) (by omega))
      by_cases hev : n % 2 = 0
      · have he : ((n : Int).tmod 2 == 0) = true := by
          have : (n : Int).tmod 2 = 0 := by rw [Int.tmod_eq_emod_of_nonneg (by omega)]; omega
          simp [this]
        have hd := Lib.hid (decide_eq_true (show (n : Int) % 2 = 0 by omega))
        go_enter Tryd.func21, Tryd.ntmps21
        go_wp2_with fail
        refine hin.out.mono ?_
        rintro e w' ⟨rfl, rfl⟩
        go_wp2
        go_ret
        exact ⟨ret_bool (by rw [hb.out, hd.out]; simp), rfl⟩
      · have he : ((n : Int).tmod 2 == 0) = false := by
          have : ¬ (n : Int).tmod 2 = 0 := by rw [Int.tmod_eq_emod_of_nonneg (by omega)]; omega
          simp [this]
        have hd := Lib.hid (decide_eq_false (show ¬ (n : Int) % 2 = 0 by omega))
        go_enter Tryd.func21, Tryd.ntmps21
        go_wp2_with fail
        go_ret
        exact ⟨ret_bool (by rw [hd.out]; simp), rfl⟩
end Go.Proofs.YtljnhggblmdlnaaDoor
