/-
  No statement is proved here: what CheckReels of the program answers; condition: the numbers are within their kinds, its errors lie where its text lays them; at most 1048576 strands and numbers.
-/
import Derived.Test.YtaanjjmochfhgaaDoorWindA
import Derived.Test.YtaanjjmochfhgaaDoorRCode
import Derived.Test.YtaanjjmochfhgaaDoorBox1
import Derived.Deep.RegionHeld3
namespace Go.Proofs.YtaanjjmochfhgaaDoor
open Go.ChangeShapes Go.WideShapes Go.ChangeAt Go.RowKit

theorem codeR_ask (m : Nat → Int) (hold : Int) (ss : List Sn) : codeR m hold ss = askS m ss (inB hold 1 2000) := by
  unfold codeR codeS askS
  cases meetsB m && allS ss with
  | false => rfl
  | true =>
    by_cases h8 : ss.length ≤ 8
    · simp only [if_pos h8]
      rfl
    · simp only [if_neg h8]
      rfl
/-- What CheckReels answers. -/
def checkRF (m : Nat → Int) (hold : Int) (ss : List Sn) (ns : List Int) : Bool × Int := if askS m ss (inB hold 1 2000) = 0 then (windB m hold ss ns, 0) else (false, askS m ss (inB hold 1 2000))

theorem ownT_drew {w : World} {b : Nat} {v : Value} {ts : List Th} (h : OwnT w b v ts) : OwnT w.drew b v ts := h

set_option maxRecDepth 100000 in
set_option maxHeartbeats 4000000 in
theorem implCheckR_any (p : Nat → Addr) (m : Nat → Int) (hold : Int) (v u : Value) (ss : List Sn) (ns : List Int) (w : World) (hs : Sent w p) (h8 : Bytes6 m) (h : Strands w v ss) (hn : ss.length ≤ 1048576) (hN : Ints w u ns) (hnn : ns.length ≤ 1048576) :
    Calls Tryd.prog 15 #[mv m, .int .i64 hold, v, u] w fun e w' => e = .returned (.tuple #[.bool (checkRF m hold ss ns).1, .int .i64 (checkRF m hold ss ns).2]) ∧ Below w.heap.size w w' := by
  have HC := Lib.hid fun wx hs hx => reelsCode_any p m hold v ss wx hs h8 hx hn
  rw [codeR_ask] at HC
  have X0 := Lib.hid (box1_made w 27 m)
  have HP := Lib.hid hs
  have HS := Lib.hid h
  by_cases h0 : askS m ss (inB hold 1 2000) = 0
  · rw [show checkRF m hold ss ns = (windB m hold ss ns, 0) from if_pos h0]
    obtain ⟨hmB, hal, hl8, hin⟩ := askS_zero h0
    have hh := inB_of hin
    have hst : ∀ j, IsSt (sat ss j) := h.1
    have HT := Lib.hid fun wx (hb : Box1 w wx m) => threadsOf_any v ss wx (HS.out.below hb.under) hn
    have HNN := Lib.hid hN
    have HW := Lib.hid fun base ut wx (hb : Box1 w wx m) (hO : OwnT wx base ut (threadsT ss)) => wind_all m hold ss ns ut u wx base h8 hmB hal hst hl8 hh hO (HNN.out.below hb.under) hnn
    rw [h0] at HC
    have HCC := HC
    unfold mv at *
    clear h0 hmB hal hl8 hin hh hst hN h hs h8 hn hnn HC
    obtain ⟨a0, c0, rfl⟩ := HS.out.len
    generalize windB m hold ss ns = r at *
    go_enter Tryd.func15, Tryd.ntmps15
    go_wp2_with fail
    refine (HCC.out _ (HP.out.below X0.out.under) (HS.out.below X0.out.under)).mono ?_
    rintro e w1 ⟨rfl, hB⟩
    have X1 := Lib.hid (box1_below X0.out hB)
    clear hB X0
    go_wp2_with fail
    go_region_held3 (fun w' => w'.cell? ⟨w.heap.size, 0, none⟩ = some (.int .u8 (m 0)) ∧ w'.cell? ⟨w.heap.size, 1, none⟩ = some (.int .u8 (m 1)) ∧ w'.cell? ⟨w.heap.size, 2, none⟩ = some (.int .u8 (m 2)) ∧ w'.cell? ⟨w.heap.size, 3, none⟩ = some (.int .u8 (m 3)) ∧ w'.cell? ⟨w.heap.size, 4, none⟩ = some (.int .u8 (m 4)) ∧ w'.cell? ⟨w.heap.size, 5, none⟩ = some (.int .u8 (m 5)) ∧ Below w.heap.size w w' ∧ w.heap.size < w'.heap.size)
      (first | assumption | exact box1_raw (box1_drew X1.out) | (refine box1_next ?_ hB; assumption))
      (first | (go_at_call 33; refine (HT.out _ (box1_id (w := w) (m := m) (by assumption))).mono ?_; rintro e w' ⟨ut, rfl, hO, hB⟩) | (go_at_call 32; refine (HW.out _ _ _ (box1_id (w := w) (m := m) (by assumption)) hO).mono ?_; rintro e w' ⟨rr, rfl, hB, hrow⟩))
    all_goals
      have HE := Lib.hid (box1_id (w := w) (m := m) (by assumption))
      clear hrow
      go_wp2
      go_ret2
      exact ⟨rfl, HE.out.under⟩
  · rw [show checkRF m hold ss ns = (false, askS m ss (inB hold 1 2000)) from if_neg h0]
    generalize askS m ss (inB hold 1 2000) = c at *
    have hcb : (c != 0) = true := by simp [h0]
    unfold mv at *
    clear h h8 hs hN hn hnn
    go_enter Tryd.func15, Tryd.ntmps15
    go_wp2_with fail
    refine (HC.out _ (HP.out.below X0.out.under) (HS.out.below X0.out.under)).mono ?_
    rintro e w1 ⟨rfl, hB⟩
    have X1 := Lib.hid (box1_below X0.out hB)
    clear hB
    go_wp2
    go_ret2
    exact ⟨rfl, X1.out.under⟩
end Go.Proofs.YtaanjjmochfhgaaDoor
