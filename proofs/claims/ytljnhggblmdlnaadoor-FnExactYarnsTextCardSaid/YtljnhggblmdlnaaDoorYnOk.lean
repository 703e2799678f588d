/-
  No statement is proved here: which yarns are valid, as the program and as the document's own text tell it; condition: the numbers are int16s, or as stated.
-/
import Derived.Test.YtljnhggblmdlnaaDoorYn
import Derived.Test.YtljnhggblmdlnaaDoorSizeOf
namespace Go.Proofs.YtljnhggblmdlnaaDoor
open Go.RowKit

/-- Measures that a yarn may have. -/
def okR (l t g : Int) : Bool := inB l 1 5000 && (inB t (-2000) 2000 && inB g 1 2000)
def okY (y : Yn) : Bool := okR y.1 y.2.1 y.2.2
theorem okR_of {l t g : Int} (h : okR l t g = true) : (1 ≤ l ∧ l ≤ 5000) ∧ (-2000 ≤ t ∧ t ≤ 2000) ∧ (1 ≤ g ∧ g ≤ 2000) := by
  simp only [okR, Bool.and_eq_true] at h
  exact ⟨inB_of h.1, inB_of h.2.1, inB_of h.2.2⟩
theorem okR_mk {l t g : Int} (h : (1 ≤ l ∧ l ≤ 5000) ∧ (-2000 ≤ t ∧ t ≤ 2000) ∧ (1 ≤ g ∧ g ≤ 2000)) : okR l t g = true := by
  simp only [okR, Bool.and_eq_true]
  exact ⟨inB_mk h.1, inB_mk h.2.1, inB_mk h.2.2⟩
theorem okR_mkno {l t g : Int} (h : ¬ ((1 ≤ l ∧ l ≤ 5000) ∧ (-2000 ≤ t ∧ t ≤ 2000) ∧ (1 ≤ g ∧ g ≤ 2000))) : okR l t g = false := by
  cases e : okR l t g with
  | false => rfl
  | true => exact absurd (okR_of e) h
theorem okY_of {a b c : Int} (h : okY (a, b, c) = true) : (1 ≤ a ∧ a ≤ 5000) ∧ (-2000 ≤ b ∧ b ≤ 2000) ∧ (1 ≤ c ∧ c ≤ 2000) := okR_of h

theorem measures_any (a b c : Int) (w : World) (h : Is16 (a, b, c)) :
    Calls Tryd.prog 103 #[.agg #[.int .i16 a, .int .i16 b, .int .i16 c]] w fun e w' => e = .returned (.agg #[.int .i64 a, .int .i64 b, .int .i64 c]) ∧ Below w.heap.size w w' := by
  obtain ⟨⟨h1, h2⟩, ⟨h3, h4⟩, h5, h6⟩ := h
  simp only at h1 h2 h3 h4 h5 h6
  go_enter Tryd.func103, Tryd.ntmps103
  go_wp2
  go_returns
  exact ⟨rfl, by go_grown⟩

set_option maxHeartbeats 1000000 in
theorem areRight_any (l t g : Int) (w : World) (ht : -9223372036854775807 ≤ t ∧ t ≤ 9223372036854775807) :
    Calls Tryd.prog 104 #[.agg #[.int .i64 l, .int .i64 t, .int .i64 g]] w fun e w' => e = .returned (.bool (okR l t g)) ∧ Below w.heap.size w w' := by
  obtain ⟨s, hs⟩ : ∃ s : Int, s = (t.natAbs : Int) := ⟨_, rfl⟩
  have HS := Lib.hid fun wx => size_any t wx ht.1 ht.2
  rw [← hs] at HS
  by_cases h1 : 1 ≤ l
  · by_cases h2 : l ≤ 5000
    · by_cases h3 : s ≤ 2000
      · by_cases h4 : 1 ≤ g
        · by_cases h5 : g ≤ 2000
          · rw [okR_mk (by omega)]
            clear hs ht
            go_enter Tryd.func104, Tryd.ntmps104
            go_wp2_with (go_at_call 105; refine (HS.out _).mono ?_; rintro e w' ⟨rfl, rfl⟩)
            go_ret
            exact ⟨rfl, by go_grown⟩
          · rw [okR_mkno (by omega)]
            clear hs ht
            go_enter Tryd.func104, Tryd.ntmps104
            go_wp2_with (go_at_call 105; refine (HS.out _).mono ?_; rintro e w' ⟨rfl, rfl⟩)
            go_ret
            exact ⟨ret_bool (show decide (g ≤ 2000) = false from decide_eq_false (by omega)), by go_grown⟩
        · rw [okR_mkno (by omega)]
          clear hs ht
          go_enter Tryd.func104, Tryd.ntmps104
          go_wp2_with (go_at_call 105; refine (HS.out _).mono ?_; rintro e w' ⟨rfl, rfl⟩)
          go_ret
          exact ⟨rfl, by go_grown⟩
      · rw [okR_mkno (by omega)]
        clear hs ht
        go_enter Tryd.func104, Tryd.ntmps104
        go_wp2_with (go_at_call 105; refine (HS.out _).mono ?_; rintro e w' ⟨rfl, rfl⟩)
        go_ret
        exact ⟨rfl, by go_grown⟩
    · rw [okR_mkno (by omega)]
      clear hs ht HS
      go_enter Tryd.func104, Tryd.ntmps104
      go_wp2
      go_ret
      exact ⟨rfl, by go_grown⟩
  · rw [okR_mkno (by omega)]
    clear hs ht HS
    go_enter Tryd.func104, Tryd.ntmps104
    go_wp2
    go_ret
    exact ⟨rfl, by go_grown⟩

set_option maxHeartbeats 1000000 in
theorem validYarn_any (a b c : Int) (w : World) (h : Is16 (a, b, c)) :
    Calls Tryd.prog 102 #[.agg #[.int .i16 a, .int .i16 b, .int .i16 c]] w fun e w' => e = .returned (.bool (okY (a, b, c))) ∧ Below w.heap.size w w' := by
  have H1 := Lib.hid fun wx => measures_any a b c wx h
  have H2 := Lib.hid fun wx => areRight_any a b c wx (by have := h.2.1; simp only at this; omega)
  have e : okY (a, b, c) = okR a b c := rfl
  rw [e]
  clear e h
  generalize okR a b c = r at *
  go_enter Tryd.func102, Tryd.ntmps102
  go_wp2_with fail
  refine (H1.out _).mono ?_
  rintro e w1 ⟨rfl, hB⟩
  have B1 := Lib.hid (((Below.refl w.heap.size w).alloc (Nat.le_refl _) _).trans (hB.mono (by simp)))
  clear hB
  go_wp2_with fail
  refine (H2.out _).mono ?_
  rintro e w2 ⟨rfl, hB⟩
  have B2 := Lib.hid (B1.out.trans (hB.mono B1.out.size))
  clear hB
  go_wp2
  go_ret
  exact ⟨rfl, B2.out⟩

set_option maxHeartbeats 1000000 in
theorem l03Yarn_any (a b c : Int) (w : World) (h : Is16 (a, b, c)) :
    Calls Tryd.prog 44 #[.agg #[.int .i16 a, .int .i16 b, .int .i16 c]] w fun e w' => e = .returned (.bool (okY (a, b, c))) ∧ Below w.heap.size w w' := by
  have e : okY (a, b, c) = (inB a 1 5000 && (inB b (-2000) 2000 && inB c 1 2000)) := rfl
  rw [e]
  clear e
  obtain ⟨⟨h1, h2⟩, ⟨h3, h4⟩, h5, h6⟩ := h
  simp only at h1 h2 h3 h4 h5 h6
  have H1 := Lib.hid fun wx => in_any a 1 5000 wx
  have H2 := Lib.hid fun wx => in_any b (-2000) 2000 wx
  have H3 := Lib.hid fun wx => in_any c 1 2000 wx
  generalize inB a 1 5000 = r1 at *
  generalize inB b (-2000) 2000 = r2 at *
  generalize inB c 1 2000 = r3 at *
  cases r1 with
  | false =>
    go_enter Tryd.func44, Tryd.ntmps44
    go_wp2_with fail
    refine (H1.out _).mono ?_
    rintro e w1 ⟨rfl, rfl⟩
    go_wp2
    go_ret
    exact ⟨rfl, by go_grown⟩
  | true =>
    cases r2 with
    | false =>
      go_enter Tryd.func44, Tryd.ntmps44
      go_wp2_with fail
      refine (H1.out _).mono ?_
      rintro e w1 ⟨rfl, rfl⟩
      go_wp2_with fail
      refine (H2.out _).mono ?_
      rintro e w1 ⟨rfl, rfl⟩
      go_wp2
      go_ret
      exact ⟨rfl, by go_grown⟩
    | true =>
      go_enter Tryd.func44, Tryd.ntmps44
      go_wp2_with fail
      refine (H1.out _).mono ?_
      rintro e w1 ⟨rfl, rfl⟩
      go_wp2_with fail
      refine (H2.out _).mono ?_
      rintro e w1 ⟨rfl, rfl⟩
      go_wp2_with fail
      refine (H3.out _).mono ?_
      rintro e w1 ⟨rfl, rfl⟩
      go_wp2
      go_ret
      exact ⟨by simp, by go_grown⟩

set_option maxRecDepth 100000 in
theorem openYarn {w : World} {r : Reach} {base : Nat} {v : Value} (h : Value.okWide Tryd.prog w r base 54 v) : ∃ a b c : Int, v = .agg #[.int .i16 a, .int .i16 b, .int .i16 c] ∧ Is16 (a, b, c) := by
  obtain ⟨vs, rfl, hc⟩ := open_cells h (by kernel_rfl) (ts := [50, 50, 50]) (ks := [.i16, .i16, .i16]) (by kernel_rfl) (by kernel_rfl) (by kernel_rfl)
  obtain ⟨a, _, rfl, ha, b, _, rfl, hb, c, _, rfl, hc, rfl⟩ := hc
  exact ⟨a, b, c, rfl, ha, hb, hc⟩
end Go.Proofs.YtljnhggblmdlnaaDoor
