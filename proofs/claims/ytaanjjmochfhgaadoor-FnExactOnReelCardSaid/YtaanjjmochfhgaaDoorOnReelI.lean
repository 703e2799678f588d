/-
  No statement is proved here: what OnReel of the program answers; condition: the numbers are within their kinds, its errors lie where its text lays them; at most 1048576 strands.
-/
import Derived.Test.YtaanjjmochfhgaaDoorCheckRI
import Derived.Test.YtaanjjmochfhgaaDoorOnReelS
import Derived.Test.YtaanjjmochfhgaaDoorZeros
import Derived.Deep.RegionWith
namespace Go.Proofs.YtaanjjmochfhgaaDoor
open Go.ChangeShapes Go.WideShapes Go.ChangeAt Go.RowKit

theorem check_zeros (m : Nat → Int) (hold : Int) (ss : List Sn) (h8 : Bytes6 m) (hst : ∀ j, IsSt (sat ss j)) : checkRF m hold ss (List.replicate ss.length 0) = onF m hold ss := by
  unfold checkRF onF
  by_cases h0 : askS m ss (inB hold 1 2000) = 0
  · rw [if_pos h0, if_pos h0]
    obtain ⟨hmB, hal, hl8, hin⟩ := askS_zero h0
    have hh := inB_of hin
    have hlen : (List.replicate ss.length (0 : Int)).length = ss.length := List.length_replicate
    have hu : upTo (List.replicate ss.length (0 : Int)) 7 = true := by
      unfold upTo
      rw [List.all_eq_true]
      intro z hz
      obtain ⟨_, rfl⟩ := List.mem_replicate.1 hz
      exact inB_mk ⟨by omega, by omega⟩
    have hsame : subS ss (List.replicate ss.length 0) 0 = ss := subS_same 0 ss _ hlen fun k _ => upTo_zeros_get _ _
    have hw : windB m hold ss (List.replicate ss.length 0) = rightB m hold ss (List.replicate ss.length 0) := by
      unfold windB
      rw [hu, decide_eq_true hlen]
      rfl
    have key : rightB m hold ss (List.replicate ss.length 0) = onB m hold ss := by
      have hiff := rightB_iff (hold := hold) h8 hmB hal (by omega) (ns := List.replicate ss.length 0) (fun r k hk => by
        obtain ⟨i, h1, h2, h3⟩ := subS_from r ss _ hlen k hk
        have h4 := (subS_at r ss _ hlen i h1 h2).2
        rw [h3] at h4
        unfold dy
        rw [h4]
        exact (sat_dy hal hst i h1).1) hlen
      by_cases hz : ss.length = 0
      · have hx : ss = [] := List.length_eq_zero_iff.1 hz
        subst hx
        have e : onB m hold [] = true := by
          rw [onB_all (fun i hi => by simp at hi)]
          have : sumS ([] : List Sn) ([] : List Sn).length = 0 := rfl
          rw [this]
          exact decide_eq_true (by omega)
        rw [e]
        rfl
      · rw [Bool.eq_iff_iff, hiff]
        constructor
        · intro h
          have := h 0 (by omega)
          rwa [upTo_zeros_get, hsame] at this
        · intro h k _
          rw [upTo_zeros_get, hsame]
          exact h
    rw [hw, key]
  · rw [if_neg h0, if_neg h0]

set_option maxRecDepth 100000 in
set_option maxHeartbeats 4000000 in
theorem implOn_any (p : Nat → Addr) (m : Nat → Int) (hold : Int) (v : Value) (ss : List Sn) (w : World) (hs : Sent w p) (h8 : Bytes6 m) (h : Strands w v ss) (hn : ss.length ≤ 1048576) :
    Calls Tryd.prog 11 #[mv m, .int .i64 hold, v] w fun e w' => e = .returned (.tuple #[.bool (onF m hold ss).1, .int .i64 (onF m hold ss).2]) ∧ Below w.heap.size w w' := by
  have hst : ∀ j, IsSt (sat ss j) := h.1
  have X0 := Lib.hid (box1_made w 27 m)
  have HP := Lib.hid hs
  have HS := Lib.hid h
  obtain ⟨R, hmk, hzr⟩ := make_zeros ss.length hn
  have B0 := Lib.hid (show Below w.heap.size w (((w.alloc (.cells #[.int .u8 (m 0), .int .u8 (m 1), .int .u8 (m 2), .int .u8 (m 3), .int .u8 (m 4), .int .u8 (m 5)] 27)).alloc (.cells R 2)).drew) from (X0.out.under.alloc X0.out.under.size _).drew)
  have hI : Ints (((w.alloc (.cells #[.int .u8 (m 0), .int .u8 (m 1), .int .u8 (m 2), .int .u8 (m 3), .int .u8 (m 4), .int .u8 (m 5)] 27)).alloc (.cells R 2)).drew) (.slice (some ⟨w.heap.size + 1, 0, none⟩) ss.length ss.length) (List.replicate ss.length 0) := by
    have hz := (hzr (w.alloc (.cells #[.int .u8 (m 0), .int .u8 (m 1), .int .u8 (m 2), .int .u8 (m 3), .int .u8 (m 4), .int .u8 (m 5)] 27))).ints
    rw [World.size_alloc] at hz
    exact hz
  have HC := Lib.hid (implCheckR_any p m hold v (.slice (some ⟨w.heap.size + 1, 0, none⟩) ss.length ss.length) ss (List.replicate ss.length 0) _ (HP.out.below B0.out) h8 (HS.out.below B0.out) hn hI (by rw [List.length_replicate]; exact hn))
  rw [check_zeros m hold ss h8 hst] at HC
  obtain ⟨a0, c0, rfl⟩ := h.len
  unfold mv at *
  clear hst h hs h8 hzr HS hI
  generalize (onF m hold ss).1 = r1 at *
  generalize (onF m hold ss).2 = r2 at *
  obtain ⟨n, hln⟩ : ∃ n, n = ss.length := ⟨_, rfl⟩
  rw [← hln] at hmk HC ⊢
  clear hln
  obtain ⟨c0, c1, c2, c3, c4, c5, _, _⟩ := X0.out
  go_enter Tryd.func11, Tryd.ntmps11
  go_wp2_with fail
  go_region_with (first
    | (go_at_call 15; refine HC.out.mono ?_; rintro e w1 ⟨rfl, hB⟩; have B1 := Lib.hid (B0.out.trans (hB.mono B0.out.size)); clear hB))
  all_goals
    go_wp2
    go_ret2
    exact ⟨rfl, B1.out⟩
end Go.Proofs.YtaanjjmochfhgaaDoor
