/-
  No statement is proved here: what OnReel answers, as the document's own text tells it; condition: the numbers are within their kinds, at most 1048576 strands.
-/
import Derived.Test.YtaanjjmochfhgaaDoorReelS
import Derived.Test.YtaanjjmochfhgaaDoorIn
namespace Go.Proofs.YtaanjjmochfhgaaDoor
open Go.ChangeShapes Go.WideShapes Go.ChangeAt Go.RowKit

/-- What OnReel answers. -/
def onF (m : Nat → Int) (hold : Int) (ss : List Sn) : Bool × Int := if askS m ss (inB hold 1 2000) = 0 then (onB m hold ss, 0) else (false, askS m ss (inB hold 1 2000))

theorem l04Hold_any (n : Int) (w : World) :
    Calls Tryd.prog 25 #[.int .i64 n] w fun e w' => e = .returned (.bool (inB n 1 2000)) ∧ w = w' := by
  have H := Lib.hid (in_any n 1 2000 w)
  go_enter Tryd.func25, Tryd.ntmps25
  go_wp2_with fail
  refine H.out.mono ?_
  rintro e w' ⟨rfl, rfl⟩
  go_wp2
  go_ret
  exact ⟨rfl, rfl⟩

set_option maxRecDepth 100000 in
set_option maxHeartbeats 2000000 in
theorem specOn_any (m : Nat → Int) (hold : Int) (v : Value) (ss : List Sn) (w : World) (h8 : Bytes6 m) (h : Strands w v ss) (hn : ss.length ≤ 1048576) :
    Calls Tryd.prog 8 #[mv m, .int .i64 hold, v] w fun e w' => e = .returned (.tuple #[.bool (onF m hold ss).1, .int .i64 (onF m hold ss).2]) ∧ Below w.heap.size w w' := by
  have HH := Lib.hid fun wx => l04Hold_any hold wx
  have M0 := Lib.hid (mAt_made w 27 m)
  have HA := Lib.hid fun wx (hm : MAt wx w.heap.size m) hx => l04Asked_any m w.heap.size v ss (inB hold 1 2000) wx hm h8 hx hn
  have HO := Lib.hid fun wx (hm : MAt wx w.heap.size m) hx hal => l04On_any m w.heap.size hold v ss wx hm h8 hx hal hn
  have HS := Lib.hid (h.below ((Below.refl _ _).alloc (Nat.le_refl _) (.cells #[.int .u8 (m 0), .int .u8 (m 1), .int .u8 (m 2), .int .u8 (m 3), .int .u8 (m 4), .int .u8 (m 5)] 27)))
  obtain ⟨a0, c0, rfl⟩ := h.len
  clear h h8
  unfold mv
  by_cases h0 : askS m ss (inB hold 1 2000) = 0
  · rw [show onF m hold ss = (onB m hold ss, 0) from if_pos h0]
    have hal := (askS_zero h0).2.1
    have HO2 := Lib.hid fun wx hm hx => HO.out wx hm hx hal
    rw [h0] at HA
    clear HO hal h0
    generalize onB m hold ss = out at *
    generalize inB hold 1 2000 = r at *
    go_enter Tryd.func8, Tryd.ntmps8
    go_wp2_with fail
    refine (HH.out _).mono ?_
    rintro e w' ⟨rfl, rfl⟩
    go_wp2_with fail
    refine (HA.out _ M0.out HS.out).mono ?_
    rintro e w1 ⟨rfl, hB⟩
    have B1 := Lib.hid (((Below.refl w.heap.size w).alloc (Nat.le_refl _) _).trans (hB.mono (by simp)))
    have M1 := Lib.hid (M0.out.below hB (by simp))
    have S1 := Lib.hid (HS.out.below hB)
    clear hB M0 HS
    go_wp2_with fail
    refine (HO2.out _ M1.out S1.out).mono ?_
    rintro e w2 ⟨rfl, hB⟩
    have B2 := Lib.hid (B1.out.trans (hB.mono B1.out.size))
    clear hB
    go_wp2
    go_ret2
    exact ⟨rfl, B2.out⟩
  · rw [show onF m hold ss = (false, askS m ss (inB hold 1 2000)) from if_neg h0]
    clear HO
    generalize askS m ss (inB hold 1 2000) = c at *
    have hcb : (c != 0) = true := by simp [h0]
    generalize inB hold 1 2000 = r at *
    go_enter Tryd.func8, Tryd.ntmps8
    go_wp2_with fail
    refine (HH.out _).mono ?_
    rintro e w' ⟨rfl, rfl⟩
    go_wp2_with fail
    refine (HA.out _ M0.out HS.out).mono ?_
    rintro e w1 ⟨rfl, hB⟩
    have B1 := Lib.hid (((Below.refl w.heap.size w).alloc (Nat.le_refl _) _).trans (hB.mono (by simp)))
    clear hB
    go_wp2
    go_ret2
    exact ⟨rfl, B1.out⟩
end Go.Proofs.YtaanjjmochfhgaaDoor
