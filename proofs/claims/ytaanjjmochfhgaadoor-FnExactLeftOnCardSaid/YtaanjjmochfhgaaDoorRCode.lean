/-
  No statement is proved here: what the program finds wrong with strands, meets and what a reel holds; condition: the numbers are within their kinds, its errors lie where its text lays them; at most 1048576 strands.
-/
import Derived.Test.YtaanjjmochfhgaaDoorStCode
import Derived.Test.YtaanjjmochfhgaaDoorWithin
namespace Go.Proofs.YtaanjjmochfhgaaDoor
open Go.ChangeShapes Go.WideShapes Go.ChangeAt Go.RowKit

/-- The code of strands, meets and what a reel holds. -/
def codeR (m : Nat → Int) (hold : Int) (ss : List Sn) : Int := if codeS m ss = 0 then (if inB hold 1 2000 = true then 0 else 2) else codeS m ss

set_option maxRecDepth 100000 in
set_option maxHeartbeats 2000000 in
theorem reelsCode_any (p : Nat → Addr) (m : Nat → Int) (hold : Int) (v : Value) (ss : List Sn) (w : World) (hs : Sent w p) (h8 : Bytes6 m) (h : Strands w v ss) (hn : ss.length ≤ 1048576) :
    Calls Tryd.prog 31 #[mv m, .int .i64 hold, v] w fun e w' => e = .returned (.int .i64 (codeR m hold ss)) ∧ Below w.heap.size w w' := by
  have HC := Lib.hid fun wx hx => strandsCode_any m v ss wx h8 hx hn
  have HS := Lib.hid (h.below ((Below.refl _ _).alloc (Nat.le_refl _) (.cells #[.int .u8 (m 0), .int .u8 (m 1), .int .u8 (m 2), .int .u8 (m 3), .int .u8 (m 4), .int .u8 (m 5)] 27)))
  have HP := Lib.hid hs
  have C := Lib.hid fun b cap wx h h0 => check1_any p b cap hold 1 2000 wx h h0
  have HI := Lib.hid fun wx hx => codeIn_any (p := p) (inB hold 1 2000) wx hx
  obtain ⟨a0, c0, rfl⟩ := h.len
  clear h hs h8
  unfold mv at *
  by_cases h0 : codeS m ss = 0
  · rw [show codeR m hold ss = if inB hold 1 2000 = true then 0 else 2 by unfold codeR; rw [h0]; rfl]
    rw [h0] at HC
    clear h0
    generalize (if inB hold 1 2000 = true then (0 : Int) else 2) = rc at *
    generalize inB hold 1 2000 = r at *
    go_enter Tryd.func31, Tryd.ntmps31
    go_wp2_with fail
    refine (HC.out _ HS.out).mono ?_
    rintro e w1 ⟨rfl, hB⟩
    have B1 := Lib.hid (((Below.refl w.heap.size w).alloc (Nat.le_refl _) _).trans (hB.mono (by simp)))
    clear hB HS
    go_wp2_with fail
    refine (C.out _ _ _ ((HP.out.below B1.out).below ((Below.refl _ _).alloc (Nat.le_refl _) _)) (by simp [go_sem])).mono ?_
    rintro e w2 ⟨rfl, hB⟩
    have B2 := Lib.hid ((B1.out.alloc B1.out.size _).trans (hB.mono (by have := B1.out.size; simp; omega)))
    clear hB
    go_wp2_with fail
    refine (HI.out _ (HP.out.below B2.out)).mono ?_
    rintro e w' ⟨rfl, rfl⟩
    go_wp2
    go_ret
    exact ⟨rfl, B2.out⟩
  · rw [show codeR m hold ss = codeS m ss by unfold codeR; rw [if_neg h0]]
    generalize codeS m ss = c at *
    have hcb : (c != 0) = true := by simp [h0]
    go_enter Tryd.func31, Tryd.ntmps31
    go_wp2_with fail
    refine (HC.out _ HS.out).mono ?_
    rintro e w1 ⟨rfl, hB⟩
    have B1 := Lib.hid (((Below.refl w.heap.size w).alloc (Nat.le_refl _) _).trans (hB.mono (by simp)))
    clear hB HS
    go_wp2
    go_ret
    exact ⟨rfl, B1.out⟩
end Go.Proofs.YtaanjjmochfhgaaDoor
