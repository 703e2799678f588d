/-
  No statement is proved here: what MayWind answers, as the document's own text tells it; condition: the numbers are within their kinds.
-/
import Derived.Test.YtibkocbfcdddfaaMay
namespace Go.Proofs.Ytibkocbfcdddfaa
open Go.ChangeShapes Go.WideShapes Go.ChangeAt Go.RowKit

/-- Two cells of a block. -/
def SAt (w : World) (b : Nat) (x : Int) (d : Nat) : Prop := w.cell? ⟨b, 0, none⟩ = some (.int .i16 x) ∧ w.cell? ⟨b, 1, none⟩ = some (.int .u8 d)
theorem SAt.below {w w' : World} {b B : Nat} {x : Int} {d : Nat} (h : SAt w b x d) (hB : Below B w w') (hb : b < B) : SAt w' b x d :=
  ⟨(hB.cell (p := ⟨b, 0, none⟩) hb).trans h.1, (hB.cell (p := ⟨b, 1, none⟩) hb).trans h.2⟩

set_option maxRecDepth 100000 in
set_option maxHeartbeats 4000000 in
theorem specMay_any (m : Nat → Int) (a1 b1 : Int) (da db : Nat) (w : World) (h8 : Bytes6 m) (ha : IsSt (a1, (da : Int))) (hb : IsSt (b1, (db : Int))) :
    Calls Try.prog 15 #[mv m, .agg #[.int .i16 a1, .int .u8 da], .agg #[.int .i16 b1, .int .u8 db]] w fun e w' => e = .returned (.tuple #[.bool (mayF m a1 b1 da db).1, .int .i64 (mayF m a1 b1 da db).2]) ∧ Below w.heap.size w w' := by
  have H1 := Lib.hid fun wx (hx : MAt wx w.heap.size m) => l04Meets_any m w.heap.size wx hx h8
  have H2 := Lib.hid fun b cap wx (hx : Strands wx (.slice (some ⟨b, 0, none⟩) 2 cap) [(a1, (da : Int)), (b1, (db : Int))]) => l04Strands_any _ _ wx hx (by simp)
  rw [allS_two] at H2
  have HA := Lib.hid ha
  have HB := Lib.hid hb
  have H8 := Lib.hid h8
  have M0 := Lib.hid (show MAt (((w.alloc (.cells #[.int .u8 (m 0), .int .u8 (m 1), .int .u8 (m 2), .int .u8 (m 3), .int .u8 (m 4), .int .u8 (m 5)] 31)).alloc (.cells #[.int .i16 a1, .int .u8 da] 39)).alloc (.cells #[.int .i16 b1, .int .u8 db] 39)) w.heap.size m from
    ((mAt_made w 31 m).below ((Below.refl _ _).alloc (Nat.le_refl _) _) (by simp)).below ((Below.refl _ _).alloc (Nat.le_refl _) _) (by simp only [World.size_alloc]; omega))
  clear ha hb h8
  unfold mv
  cases h1 : meetsB m with
  | false =>
    rw [mayF_no1 h1]
    rw [h1] at H1
    clear h1 H2
    go_enter Try.func15, Try.ntmps15
    go_wp2_with fail
    refine (H1.out _ M0.out).mono ?_
    rintro e w1 ⟨rfl, hB⟩
    have B1 := Lib.hid (((((Below.refl w.heap.size w).alloc (Nat.le_refl _) _).alloc (by simp) _).alloc (by simp only [World.size_alloc]; omega) _).trans (hB.mono (by simp only [World.size_alloc]; omega)))
    clear hB
    go_wp2
    go_ret2
    exact ⟨rfl, B1.out⟩
  | true =>
    rw [h1] at H1
    cases h2 : (okS (a1, (da : Int)) && okS (b1, (db : Int))) with
    | false =>
      rw [mayF_no2 h2]
      rw [h2] at H2
      clear h1 h2
      go_enter Try.func15, Try.ntmps15
      go_wp2_with fail
      refine (H1.out _ M0.out).mono ?_
      rintro e w1 ⟨rfl, hB⟩
      have B1 := Lib.hid (((((Below.refl w.heap.size w).alloc (Nat.le_refl _) _).alloc (by simp) _).alloc (by simp only [World.size_alloc]; omega) _).trans (hB.mono (by simp only [World.size_alloc]; omega)))
      have A1 : SAt w1 (w.heap.size + 1) a1 da := SAt.below (x := a1) (d := da) (w := ((w.alloc (.cells #[.int .u8 (m 0), .int .u8 (m 1), .int .u8 (m 2), .int .u8 (m 3), .int .u8 (m 4), .int .u8 (m 5)] 31)).alloc (.cells #[.int .i16 a1, .int .u8 da] 39)).alloc (.cells #[.int .i16 b1, .int .u8 db] 39)) ⟨by simp [go_sem], by simp [go_sem]⟩ hB (by simp only [World.size_alloc]; omega)
      have A2 : SAt w1 (w.heap.size + 2) b1 db := SAt.below (x := b1) (d := db) (w := ((w.alloc (.cells #[.int .u8 (m 0), .int .u8 (m 1), .int .u8 (m 2), .int .u8 (m 3), .int .u8 (m 4), .int .u8 (m 5)] 31)).alloc (.cells #[.int .i16 a1, .int .u8 da] 39)).alloc (.cells #[.int .i16 b1, .int .u8 db] 39)) ⟨by simp [go_sem], by simp [go_sem]⟩ hB (by simp only [World.size_alloc]; omega)
      obtain ⟨a10, a11⟩ := A1
      obtain ⟨a20, a21⟩ := A2
      clear hB
      go_wp2_with fail
      refine (H2.out _ _ _ (two_strands w1 _ a1 b1 da db HA.out HB.out _)).mono ?_
      rintro e w' ⟨rfl, rfl⟩
      have B2 := Lib.hid (B1.out.alloc B1.out.size (.cells #[.int .i16 a1, .int .u8 da, .int .i16 b1, .int .u8 db] 39))
      go_wp2
      go_ret2
      exact ⟨rfl, B2.out⟩
    | true =>
      rw [mayF_yes h1 h2]
      rw [h2] at H2
      rw [Bool.and_eq_true] at h2
      have h6a : da < 6 := by have := (okS_of h2.1).2; omega
      have h6b : db < 6 := by have := (okS_of h2.2).2; omega
      have H3 := Lib.hid fun wx (hx : MAt wx w.heap.size m) => l04May_any m w.heap.size a1 b1 da db wx hx H8.out h6a h6b
      generalize mayB m da db = r at *
      clear h1 h2 h6a h6b
      go_enter Try.func15, Try.ntmps15
      go_wp2_with fail
      refine (H1.out _ M0.out).mono ?_
      rintro e w1 ⟨rfl, hB⟩
      have B1 := Lib.hid (((((Below.refl w.heap.size w).alloc (Nat.le_refl _) _).alloc (by simp) _).alloc (by simp only [World.size_alloc]; omega) _).trans (hB.mono (by simp only [World.size_alloc]; omega)))
      have A1 : SAt w1 (w.heap.size + 1) a1 da := SAt.below (x := a1) (d := da) (w := ((w.alloc (.cells #[.int .u8 (m 0), .int .u8 (m 1), .int .u8 (m 2), .int .u8 (m 3), .int .u8 (m 4), .int .u8 (m 5)] 31)).alloc (.cells #[.int .i16 a1, .int .u8 da] 39)).alloc (.cells #[.int .i16 b1, .int .u8 db] 39)) ⟨by simp [go_sem], by simp [go_sem]⟩ hB (by simp only [World.size_alloc]; omega)
      have A2 : SAt w1 (w.heap.size + 2) b1 db := SAt.below (x := b1) (d := db) (w := ((w.alloc (.cells #[.int .u8 (m 0), .int .u8 (m 1), .int .u8 (m 2), .int .u8 (m 3), .int .u8 (m 4), .int .u8 (m 5)] 31)).alloc (.cells #[.int .i16 a1, .int .u8 da] 39)).alloc (.cells #[.int .i16 b1, .int .u8 db] 39)) ⟨by simp [go_sem], by simp [go_sem]⟩ hB (by simp only [World.size_alloc]; omega)
      have Z1 := Lib.hid (show w.heap.size + 2 < w1.heap.size by have := hB.size; simp only [World.size_alloc] at this; omega)
      have M1 := Lib.hid (M0.out.below hB (by simp only [World.size_alloc]; omega))
      have AA := Lib.hid A1
      have AB := Lib.hid A2
      obtain ⟨a10, a11⟩ := A1
      obtain ⟨a20, a21⟩ := A2
      clear hB M0
      go_wp2_with fail
      refine (H2.out _ _ _ (two_strands w1 _ a1 b1 da db HA.out HB.out _)).mono ?_
      rintro e w' ⟨rfl, rfl⟩
      have hBa : Below w1.heap.size w1 (w1.alloc (.cells #[.int .i16 a1, .int .u8 da, .int .i16 b1, .int .u8 db] 39)) := (Below.refl _ _).alloc (Nat.le_refl _) _
      have B2 := Lib.hid (B1.out.trans (hBa.mono B1.out.size))
      have M2 := Lib.hid (M1.out.below hBa (by have := Z1.out; omega))
      obtain ⟨b10, b11⟩ := AA.out.below hBa (by have := Z1.out; omega)
      obtain ⟨b20, b21⟩ := AB.out.below hBa Z1.out
      clear hBa a10 a11 a20 a21
      go_wp2_with fail
      refine (H3.out _ M2.out).mono ?_
      rintro e w3 ⟨rfl, hB⟩
      have B3 := Lib.hid (B2.out.trans (hB.mono B2.out.size))
      clear hB b10 b11 b20 b21
      go_wp2
      go_ret2
      exact ⟨rfl, B3.out⟩
end Go.Proofs.Ytibkocbfcdddfaa
