/-
  No statement is proved here: what the program finds wrong with strands and meets; condition: the numbers are within their kinds, at most 1048576 strands.
-/
import Derived.Test.YtaanjjmochfhgaaDoorMeets
import Derived.Test.YtaanjjmochfhgaaDoorSnOk
namespace Go.Proofs.YtaanjjmochfhgaaDoor
open Go.ChangeShapes Go.WideShapes Go.ChangeAt Go.RowKit

/-- What the program asks of strands and meets. -/
def codeS (m : Nat → Int) (ss : List Sn) : Int := if (meetsB m && allS ss) = true then (if ss.length ≤ 8 then 0 else 3) else 1

set_option maxRecDepth 100000 in
set_option maxHeartbeats 2000000 in
theorem strandsCode_any (m : Nat → Int) (v : Value) (ss : List Sn) (w : World) (h8 : Bytes6 m) (h : Strands w v ss) (hn : ss.length ≤ 1048576) :
    Calls Tryd.prog 44 #[mv m, v] w fun e w' => e = .returned (.int .i64 (codeS m ss)) ∧ Below w.heap.size w w' := by
  have HM := Lib.hid fun wx => implMeets_any m wx h8
  have HV := Lib.hid fun wx hx => implStrands_any v ss wx hx hn
  have HS := Lib.hid (h.below ((Below.refl _ _).alloc (Nat.le_refl _) (.cells #[.int .u8 (m 0), .int .u8 (m 1), .int .u8 (m 2), .int .u8 (m 3), .int .u8 (m 4), .int .u8 (m 5)] 27)))
  obtain ⟨a0, c0, rfl⟩ := h.len
  clear h
  unfold mv at *
  cases h1 : meetsB m with
  | false =>
    rw [show codeS m ss = 1 by unfold codeS; rw [h1]; rfl]
    rw [h1] at HM
    clear h1 HV
    go_enter Tryd.func44, Tryd.ntmps44
    go_wp2_with fail
    refine (HM.out _).mono ?_
    rintro e w1 ⟨rfl, hB⟩
    have B1 := Lib.hid (((Below.refl w.heap.size w).alloc (Nat.le_refl _) _).trans (hB.mono (by simp)))
    clear hB
    go_wp2
    go_ret
    exact ⟨rfl, B1.out⟩
  | true =>
    rw [h1] at HM
    cases h2 : allS ss with
    | false =>
      rw [show codeS m ss = 1 by unfold codeS; rw [h2]; simp]
      rw [h2] at HV
      clear h1 h2
      go_enter Tryd.func44, Tryd.ntmps44
      go_wp2_with fail
      refine (HM.out _).mono ?_
      rintro e w1 ⟨rfl, hB⟩
      have B1 := Lib.hid (((Below.refl w.heap.size w).alloc (Nat.le_refl _) _).trans (hB.mono (by simp)))
      have S1 := Lib.hid (HS.out.below hB)
      clear hB HS
      go_wp2_with fail
      refine (HV.out _ S1.out).mono ?_
      rintro e w2 ⟨rfl, hB⟩
      have B2 := Lib.hid (B1.out.trans (hB.mono B1.out.size))
      clear hB
      go_wp2
      go_ret
      exact ⟨rfl, B2.out⟩
    | true =>
      rw [h2] at HV
      by_cases h3 : ss.length ≤ 8
      · rw [show codeS m ss = 0 by unfold codeS; rw [h1, h2]; simp [h3]]
        clear h1 h2
        generalize ss.length = n at *
        go_enter Tryd.func44, Tryd.ntmps44
        go_wp2_with fail
        refine (HM.out _).mono ?_
        rintro e w1 ⟨rfl, hB⟩
        have B1 := Lib.hid (((Below.refl w.heap.size w).alloc (Nat.le_refl _) _).trans (hB.mono (by simp)))
        have S1 := Lib.hid (HS.out.below hB)
        clear hB HS
        go_wp2_with fail
        refine (HV.out _ S1.out).mono ?_
        rintro e w2 ⟨rfl, hB⟩
        have B2 := Lib.hid (B1.out.trans (hB.mono B1.out.size))
        clear hB
        go_wp2
        go_ret
        exact ⟨rfl, B2.out⟩
      · rw [show codeS m ss = 3 by unfold codeS; rw [h1, h2]; simp [h3]]
        have h3' : 8 < ss.length := by omega
        clear h1 h2
        generalize ss.length = n at *
        go_enter Tryd.func44, Tryd.ntmps44
        go_wp2_with fail
        refine (HM.out _).mono ?_
        rintro e w1 ⟨rfl, hB⟩
        have B1 := Lib.hid (((Below.refl w.heap.size w).alloc (Nat.le_refl _) _).trans (hB.mono (by simp)))
        have S1 := Lib.hid (HS.out.below hB)
        clear hB HS
        go_wp2_with fail
        refine (HV.out _ S1.out).mono ?_
        rintro e w2 ⟨rfl, hB⟩
        have B2 := Lib.hid (B1.out.trans (hB.mono B1.out.size))
        clear hB
        go_wp2
        go_ret
        exact ⟨rfl, B2.out⟩

set_option maxRecDepth 100000 in
set_option maxHeartbeats 2000000 in
theorem codeS_bd (m : Nat → Int) (ss : List Sn) : 0 ≤ codeS m ss ∧ codeS m ss ≤ 3 := by
  unfold codeS
  split
  · split <;> omega
  · omega
end Go.Proofs.YtaanjjmochfhgaaDoor
