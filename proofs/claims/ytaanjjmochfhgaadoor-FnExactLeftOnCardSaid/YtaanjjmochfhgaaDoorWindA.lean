/-
  No statement is proved here: threads that the program winds onto reels by their numbers, for any numbers; condition: the threads are those of at most 8 valid strands, the meets are valid.
-/
import Derived.Test.YtaanjjmochfhgaaDoorWind
namespace Go.Proofs.YtaanjjmochfhgaaDoor
open Go.ChangeShapes Go.WideShapes Go.ChangeAt Go.RowKit

theorem sat_dy {ss : List Sn} (h : allS ss = true) (h2 : ∀ j, IsSt (sat ss j)) (k : Nat) (hk : k < ss.length) : dy ss k < 6 ∧ (sat ss k).2 = (dy ss k : Int) := by
  have h1 := okS_at (allS_get h k hk)
  have h3 := (h2 k).2
  unfold dy
  omega

/-- Whether all threads are wound as told. -/
def windB (m : Nat → Int) (hold : Int) (ss : List Sn) (ns : List Int) : Bool := decide (ns.length = ss.length) && (upTo ns 7 && rightB m hold ss ns)

set_option maxRecDepth 100000 in
set_option maxHeartbeats 2000000 in
theorem wind_all (m : Nat → Int) (hold : Int) (ss : List Sn) (ns : List Int) (ut un : Value) (w : World) (base : Nat) (h8 : Bytes6 m) (hmB : meetsB m = true) (hal : allS ss = true) (hst : ∀ j, IsSt (sat ss j)) (hn8 : ss.length ≤ 8) (hh : 1 ≤ hold ∧ hold ≤ 2000)
    (hT : OwnT w base ut (threadsT ss)) (hN : Ints w un ns) (hn : ns.length ≤ 1048576) :
    Calls Tryd.prog 32 #[.agg #[.int .i64 hold, .int .u8 (m 0), .int .u8 (m 1), .int .u8 (m 2), .int .u8 (m 3), .int .u8 (m 4), .int .u8 (m 5)], ut, un] w
      fun e w' => ∃ r, e = .returned (.tuple #[r, .bool (windB m hold ss ns)]) ∧ Below w.heap.size w w' ∧ (windB m hold ss ns = true → w'.ownsRow (w.heap.size + 1) 67 1 r (mxS ns ss.length) (rowsR m hold ss ns ss.length (mxS ns ss.length))) := by
  have hlT : (threadsT ss).length = ss.length := threadsT_length ss
  obtain ⟨at0, ct0, hut⟩ : ∃ a c, ut = .slice a ss.length c := by
    rcases hT.2 with ⟨h1, h2⟩ | ⟨g, cap, cur, hv, _⟩
    · exact ⟨none, 0, by rw [h1, ← hlT, h2]⟩
    · exact ⟨_, _, by rw [hv, hlT]⟩
  obtain ⟨an, cn, hun⟩ : ∃ a c, un = .slice a ns.length c := by
    rcases hN with ⟨a, cap, rfl, rfl⟩ | ⟨b, off, cap, rfl, _⟩
    · exact ⟨_, _, rfl⟩
    · exact ⟨_, _, rfl⟩
  by_cases hl : ns.length = ss.length
  · have HU := fun wx (hb : Below w.heap.size w wx) => areUp_any un ns 7 wx (hN.below hb) hn
    cases hu : upTo ns 7 with
    | false =>
      have hw : windB m hold ss ns = false := by unfold windB; rw [hu]; simp
      rw [hw]
      rw [hu] at HU
      have HUH := Lib.hid HU
      subst hut hun
      rw [hl] at HUH ⊢
      have B1 := Lib.hid (show Below w.heap.size w (w.alloc (.cells #[.int .i64 hold, .int .u8 (m 0), .int .u8 (m 1), .int .u8 (m 2), .int .u8 (m 3), .int .u8 (m 4), .int .u8 (m 5)] 61)) from (Below.refl _ w).alloc (Nat.le_refl _) _)
      clear HU hu hw hl hT hN hmB hal hst h8 hh hlT
      go_enter Tryd.func32, Tryd.ntmps32
      go_wp2_with fail
      refine (HUH.out _ B1.out).mono ?_
      rintro e W0 ⟨rfl, hW0⟩
      rw [hW0] at B1
      clear hW0
      go_wp2
      go_ret2
      exact ⟨_, rfl, B1.out, fun h => by cases h⟩
    | true =>
      have hw : windB m hold ss ns = rightB m hold ss ns := by unfold windB; rw [hu, decide_eq_true hl]; rfl
      rw [hw]
      rw [hu] at HU
      by_cases h0 : ss.length = 0
      · have hss : ss = [] := List.length_eq_zero_iff.1 h0
        subst hss
        have hns : ns = [] := List.length_eq_zero_iff.1 hl
        subst hns
        have HUH := Lib.hid HU
        subst hut hun
        have B1 := Lib.hid (show Below w.heap.size w (w.alloc (.cells #[.int .i64 hold, .int .u8 (m 0), .int .u8 (m 1), .int .u8 (m 2), .int .u8 (m 3), .int .u8 (m 4), .int .u8 (m 5)] 61)) from (Below.refl _ w).alloc (Nat.le_refl _) _)
        clear HU hu hw hT hN hmB hal hst h8 hh hlT
        go_enter Tryd.func32, Tryd.ntmps32
        go_wp2_with fail
        refine (HUH.out _ B1.out).mono ?_
        rintro e W0 ⟨rfl, hW0⟩
        rw [hW0] at B1
        clear hW0
        go_wp2
        go_rounds 1
        go_ret2
        exact ⟨_, rfl, B1.out, fun _ => ⟨rfl, .inl ⟨rfl, rfl⟩⟩⟩
      · obtain ⟨g, cap, hv, hg⟩ : ∃ g cap, ut = .slice (some ⟨g, 0, none⟩) ss.length cap ∧ g < w.heap.size := by
          rcases hT.2 with ⟨h1, h2⟩ | ⟨g, cap, cur, hv, _, hh, _⟩
          · exact absurd (hlT ▸ h2) h0
          · exact ⟨g, cap, by rw [hv, hlT], lt_of_block hh⟩
        obtain ⟨b2, o2, c2, hv2, hb2, hc2⟩ : ∃ b off cap, un = .slice (some ⟨b, off, none⟩) ss.length cap ∧ b < w.heap.size ∧ ∀ j, j < ss.length → w.cell? ⟨b, off + j, none⟩ = some (.int .i64 (ns.getD j 0)) := by
          rcases hN with ⟨a, cap, _, h2⟩ | ⟨b, off, cap, hv, _, hb, hc⟩
          · subst h2; simp at hl; omega
          · exact ⟨b, off, cap, by rw [hv, hl], hb, by rw [← hl]; exact hc⟩
        have hcT : ∀ j, j < ss.length → w.cell? ⟨g, 0 + j * 3, none⟩ = some (.int .u8 (dy ss j)) ∧ w.cell? ⟨g, 0 + j * 3 + 1, none⟩ = some (.int .i64 (sat ss j).1) ∧ w.cell? ⟨g, 0 + j * 3 + 2, none⟩ = some (.int .i64 0) := by
          intro j hj
          have hc := cellsT_get (threadsT ss) j (by rw [hlT]; exact hj)
          rw [threadsT_at] at hc
          simp only [(sat_dy hal hst j hj).2] at hc
          have hT' : w.ownsRow base 87 3 (.slice (some ⟨g, 0, none⟩) ss.length cap) ss.length (cellsT (threadsT ss)) := by
            have := hT
            unfold OwnT at this
            rw [hv, hlT] at this
            exact this
          rw [Nat.zero_add]
          exact ⟨(hT'.cellAt _ (by omega)).trans hc.1, (hT'.cellAt _ (by omega)).trans hc.2.1, (hT'.cellAt _ (by omega)).trans hc.2.2⟩
        rw [hv, hv2]
        rw [hv2] at HU
        exact wind_any m hold ss ns ss.length g 0 cap b2 o2 c2 w (by omega) hn8 rfl hl h8 hmB hal hh (fun k hk => sat_dy hal hst k hk) hu hg hb2 hcT hc2 HU
  · have hw : windB m hold ss ns = false := by unfold windB; rw [decide_eq_false hl]; rfl
    rw [hw]
    have hne : ((ns.length : Int) != (ss.length : Int)) = true := by simp; omega
    subst hut hun
    clear hT hN hmB hal hst h8 hh hlT hw hl
    generalize ns.length = a at *
    generalize ss.length = b at *
    go_enter Tryd.func32, Tryd.ntmps32
    go_wp2
    go_ret2
    exact ⟨_, rfl, (Below.refl _ w).alloc (Nat.le_refl _) _, fun h => by cases h⟩
end Go.Proofs.YtaanjjmochfhgaaDoor
